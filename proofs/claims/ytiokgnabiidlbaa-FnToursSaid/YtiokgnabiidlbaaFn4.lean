/-
  What is proved: impl.MirrorWalk, impl.ShiftWalk, impl.BackWalk and the model's answer alike. Conditions: those of each contract.
-/
import Derived.Test.YtiokgnabiidlbaaFn2
import Derived.Deep.AppendLies
import Derived.Deep.RegionHeld3
namespace Go.Proofs.Ytiokgnabiidlbaa
open Go.RowKit

theorem made_at (w : World) (base k : Nat) (hk : w.heap.size = k) (hb : base ≤ k) : (w.alloc (.cells #[] 3)).ownsRow base 3 1 (.slice (some ⟨k, 0, none⟩) 0 0) 0 [] := by
  subst hk
  exact World.ownsRow_made w #[] 0 hb (by decide) (by simp)
theorem cell_at (w : World) (cs : Array Value) (t : TypeId) (k : Nat) (u : Value) (hk : w.heap.size = k) (hu : cs[0]? = some u) : (w.alloc (.cells cs t)).cell? ⟨k, 0, none⟩ = some u := by
  subst hk
  rw [cell_new]
  exact hu
theorem owns_out {base : Nat} {n : Int} {g : Bool} {w wr : World} {v : Value} {zs : List Int} {b : Bool} (h : Boxed base n g w wr) (ho : wr.ownsRow (base + 1) 3 1 v zs.length (zs.map iv)) : OwnsB base zs b w (.returned (.tuple #[v, .bool b])) wr :=
  ⟨v, rfl, owns_lower ho (Nat.le_succ _), h.below⟩
theorem boxed_append {base : Nat} {n : Int} {g : Bool} {w wr w1 : World} {v : Value} {o : Obj} (h : Boxed base n g w wr) (hg : (wr.alloc o).grownBy w1 v.ownBlock) (hv : ∀ b, v.ownBlock = some b → base + 1 ≤ b) : Boxed base n g w w1 :=
  (h.next (below_new wr o)).nextAt (Nat.lt_succ_self _) (below_grown hg hv (by have := h.size; simp; omega))
theorem boxed_appendD {base : Nat} {n : Int} {g : Bool} {w wr w1 : World} {v : Value} {o : Obj} (h : Boxed base n g w wr) (hg : (wr.alloc o).drew.grownBy w1 v.ownBlock) (hv : ∀ b, v.ownBlock = some b → base + 1 ≤ b) : Boxed base n g w w1 :=
  ((h.next (below_new wr o)).next (below_drewN _ 1)).nextAt (Nat.lt_succ_self _) (below_grown hg hv (by have := h.size; simp; omega))
theorem sOf {base : Nat} {n : Int} {g : Bool} {w w1 : World} {b i : Nat} {u : Value} (h : Boxed base n g w w1) (hbl : b < base) (h0 : w.cell? ⟨b, i, none⟩ = some u) (hbase : base = w.heap.size) : Boxed base n g w w1 ∧ w1.cell? ⟨base, 0, none⟩ = some (.int .i64 n) ∧ w1.cell? ⟨b, i, none⟩ = some u := by
  subst hbase
  exact ⟨h, h.c0, (h.below.cell (p := ⟨b, i, none⟩) hbl).trans h0⟩
theorem append_below {base n : Nat} {wr w1 : World} {v : Value} {xs : List Value} {o : Obj} (_h : wr.ownsRow base 3 1 v n xs) (_hg : (wr.alloc o).grownBy w1 v.ownBlock) : True := trivial
/-- behind k rounds the list holds what f makes of the first k numbers -/
def LRel (n : Int) (g : Bool) (xs : List Int) (f : Int → Int) (base : Nat) (w : World) (v i : Value) (wr : World) : Prop :=
  Boxed base n g w wr ∧ ∃ k : Nat, k ≤ xs.length ∧ i = .int .i64 k ∧ wr.ownsRow (base + 1) 3 1 v k (((xs.take k).map f).map iv)
theorem take_map_snoc (xs : List Int) (f : Int → Int) (k : Nat) (x : Int) (h : xs[k]? = some x) : ((xs.take k).map f).map iv ++ [Value.int .i64 (f x)] = ((xs.take (k + 1)).map f).map iv := by
  obtain ⟨hk, rfl⟩ := List.getElem?_eq_some_iff.1 h
  rw [List.take_succ_eq_append_getElem hk]
  simp only [List.map_append, List.map_cons, List.map_nil]
theorem lrel_next {n : Int} {g : Bool} {xs : List Int} {f : Int → Int} {base : Nat} {w wr : World} {v i : Value} {k : Nat} {x : Int} (hx : xs[k]? = some x) (hi : i = .int .i64 ((k + 1 : Nat) : Int)) (h : Boxed base n g w wr) (ho : wr.ownsRow (base + 1) 3 1 v (k + 1) (((xs.take k).map f).map iv ++ [Value.int .i64 (f x)])) : LRel n g xs f base w v i wr := by
  refine ⟨h, k + 1, (List.getElem?_eq_some_iff.1 hx).1, hi, ?_⟩
  rw [← take_map_snoc xs f k x hx]
  exact ho
theorem lrel_next2 {n : Int} {g : Bool} {xs : List Int} {f : Int → Int} {base : Nat} {w wr : World} {v i : Value} {k : Nat} {x : Int} {ys : List Value} (hys : ((xs.take k).map f).map iv = ys) (hx : xs[k]? = some x) (hi : i = .int .i64 ((k + 1 : Nat) : Int)) (h : Boxed base n g w wr) (ho : wr.ownsRow (base + 1) 3 1 v (k + 1) (ys ++ [Value.int .i64 (f x)])) : LRel n g xs f base w v i wr := by
  subst hys
  exact lrel_next hx hi h ho
theorem lrel_end {n : Int} {g : Bool} {xs : List Int} {f : Int → Int} {base : Nat} {w wr : World} {v : Value} {k : Nat} {b : Bool} (hk : k = xs.length) (h : Boxed base n g w wr) (ho : wr.ownsRow (base + 1) 3 1 v k (((xs.take k).map f).map iv)) : OwnsB base (xs.map f) b w (.returned (.tuple #[v, .bool b])) wr := by
  subst hk
  rw [List.take_length] at ho
  exact owns_out h (by rw [List.length_map]; exact ho)
theorem lrel_endI {n : Int} {g : Bool} {xs : List Int} {f : Int → Int} {base : Nat} {w wr : World} {v : Value} {k : Nat} (hk : k = xs.length) (h : Boxed base n g w wr) (ho : wr.ownsRow (base + 1) 3 1 v k (((xs.take k).map f).map iv)) : OwnsI base (xs.map f) w (.returned v) wr := by
  subst hk
  rw [List.take_length] at ho
  exact ⟨v, rfl, owns_lower (by rw [List.length_map]; exact ho) (Nat.le_succ _), h.below⟩
theorem owns_R {base : Nat} {R : List Int × Bool} {zs : List Int} {b : Bool} {w w' : World} {e : Ending} (hR : R = (zs, b)) (h : OwnsB base zs b w e w') : OwnsB base R.1 R.2 w e w' := by
  rw [hR]
  exact h
noncomputable def mirrorR (n : Int) (g : Bool) (xs : List Int) : List Int × Bool := if walkD n g xs = true then (xs.map (fun p => n - 1 - p), true) else ([], false)
set_option maxHeartbeats 800000 in
set_option maxRecDepth 20000 in
theorem spec_MirrorWalk (n : Int) (g : Bool) (v : Value) (xs : List Int) (w : World) (hv : ReadsI w v xs) :
    Calls Try.prog 17 #[rd n g, v] w (OwnsB w.heap.size (mirrorR n g xs).1 (mirrorR n g xs).2 w) := by
  obtain ⟨i0, hi, hz0, hz1, hz2⟩ := info_parts infoInt
  have HX0 := Lib.hid (Boxed.first w n g 25)
  have HV := Lib.hid hv
  have HVB := Lib.hid (hv.below (below_new w (.cells #[.int .i64 n, .bool g] 25)))
  have HO0 := Lib.hid (made_at (w.alloc (.cells #[.int .i64 n, .bool g] 25)) (w.heap.size + 1) (w.heap.size + 1) (by simp) (Nat.le_refl _))
  obtain ⟨y, c, hvv, hc, hm, hx⟩ := hv
  subst hvv
  unfold maxLen at hm
  have HL := Lib.hid hx
  clear hx
  have HW := Lib.hid (fun v w hv => l2Walk_is n g v xs w hv)
  unfold rd at *
  go_enter Try.func17, Try.ntmps17
  go_wp2_with fail
  refine (HW.out _ _ (HVB.out.below (below_new _ _))).mono ?_
  rintro e w1 ⟨rfl, hb⟩
  have HX := Lib.hid ((HX0.out.next (below_new _ _)).next hb)
  have HO := Lib.hid (owns_below HO0.out hb)
  clear hb HX0 HO0
  cases hw : walkD n g xs
  · go_wp2_with fail
    go_ret2
    exact owns_R (zs := []) (b := false) (by simp [mirrorR, hw]) (owns_out HX.out HO.out)
  · have hwk := (walkD_iff n g xs).1 hw
    have hn := (roadB_iff n g).1 hwk.1
    have hn1 := hn.1
    have hn2 := hn.2.1
    have hl61 := hwk.2.2.1
    have HIN := Lib.hid hwk.2.2.2.1
    have HK := Lib.hid hw
    clear hwk hw hn
    go_wp2_with fail
    go_loopw [6, 7] (fun v i wr => LRel n g xs (fun p => n - 1 - p) w.heap.size w v i wr) (fun _ i _ => xs.length - (intOf i).toNat)
    case atStart => exact ⟨HX.out, 0, Nat.zero_le _, rfl, HO.out⟩
    case round =>
      obtain ⟨hx, k, hk, rfl, hown⟩ := hrel
      clear HX HO
      have HX := Lib.hid hx
      clear hx
      have HOW := Lib.hid hown
      clear hown
      by_cases hlt : k < xs.length
      · obtain ⟨x, hxk⟩ := get_some hlt
        obtain ⟨b, o, rfl, hbl, hcx0⟩ := HL.out k x hxk
        have hxin := HIN.out k x hxk
        have HXK := Lib.hid hxk
        have hi0 : 0 ≤ (k : Int) := by omega
        have hi1 : (k : Int) < xs.length := by omega
        have hw1 : IntKind.i64.wrap (n - 1) = n - 1 := IntWalk.i64_in _ (by omega)
        have hw2 : IntKind.i64.wrap (n - 1 - x) = n - 1 - x := IntWalk.i64_in _ (by omega)
        have HW1 := Lib.hid hw1
        have HW2 := Lib.hid hw2
        clear hw1 hw2 hxk
        have hown := HOW.out
        have hkl : (k + 1) * 8 ≤ 140737488355328 := by omega
        go_wp2_with fail
        have hw1 := HW1.out
        have hw2 := HW2.out
        go_region_held3 (fun w' => Boxed w.heap.size n g w w' ∧ w'.cell? ⟨w.heap.size, 0, none⟩ = some (.int .i64 n) ∧ w'.cell? ⟨b, o + k, none⟩ = some (.int .i64 x))
          (first | exact sOf HX9 hbl hcx0 rfl | exact sOf (HX.out.next (below_drewN _ 1)) hbl hcx0 rfl | exact sOf ((HX.out.next (below_new _ _)).next (below_drewN _ 1)) hbl hcx0 rfl)
          ((refine step_append_lies _ (by rfl) _ _ _ (by rfl) (w.heap.size + 1) 3 i0 _ 1 8 Try.underlying26 hi hz0 hz1 hz2 rfl (by decide) _ k _ (by rfl) (owns_below (hown.alloc _) (below_drewN _ 1))
                ⟨wr.heap.size, 0, none⟩ 1 1 [.int .i64 (n - 1 - x)] (by rfl) (by rfl) (World.news_of_block (cs := #[.int .i64 (n - 1 - x)]) (t := 3) (fr := (0, 0)) (heap_alloc_new wr _)) (by simp [Value.oneCell'])
                (by decide) (by unfold maxLen; omega) hkl (by have := HX.out.size; simp; omega) (wr.heap.size + 1) (by simp) ?_; intro gg cap w9 hown' hgrow _ _; have HX9 := boxed_appendD HX.out hgrow (fun b hb => (owns_block hown b hb).1)))
        clear hw1 hw2
        have HX := Lib.hid HX9
        go_wp2_with fail
        go_roundw
        case rel => exact lrel_next (f := fun p => n - 1 - p) HXK.out (by go_num) HX.out hown'
        case measure => simp [intOf]; omega
      · have hke : k = xs.length := by omega
        have HE := Lib.hid hke
        clear hke
        go_wp2_with fail
        go_ret2
        exact owns_R (zs := xs.map fun p => n - 1 - p) (b := true) (by simp [mirrorR, HK.out]) (lrel_end (f := fun p => n - 1 - p) HE.out HX.out HOW.out)
theorem mirrorR_len (n : Int) (g : Bool) (xs : List Int) (h : xs.length ≤ 1048576) : (mirrorR n g xs).1.length ≤ 1048576 := by
  unfold mirrorR
  split
  · simpa using h
  · simp
/-- what reform answers -/
noncomputable def formR (n : Int) (g : Bool) (xs : List Int) (f : Int → Int) : List Int × Bool := if walkD n g xs = true then (xs.map f, true) else ([], false)
theorem mirrored_any (n : Int) (g : Bool) (p : Int) (w : World) (hn : 0 ≤ n ∧ n ≤ 24) (hp : 0 ≤ p ∧ p < n) :
    Calls Try.prog 52 #[rd n g, .int .i64 p] w fun e w' => e = .returned (.int .i64 (n - 1 - p)) ∧ Below w.heap.size w w' := by
  unfold rd
  go_enter Try.func52, Try.ntmps52
  go_wp2
  go_ret
  exact ⟨rfl, below_new w _⟩
set_option maxHeartbeats 800000 in
theorem formed_mirror (n : Int) (g : Bool) (v : Value) (xs : List Int) (w : World) (hv : ReadsI w v xs) (hn : 2 ≤ n ∧ n ≤ 24) (hin : Inside n xs) (hlen : xs.length ≤ 1048576) :
    Calls Try.prog 91 #[rd n g, v, .func (.func 52) #[] #[]] w (OwnsI w.heap.size (xs.map fun p => n - 1 - p) w) := by
  obtain ⟨i0, hi, hz0, hz1, hz2⟩ := info_parts infoInt
  have HC := Lib.hid (fun p w hp hn => mirrored_any n g p w hn hp)
  have hn1 := hn.1
  have hn2 := hn.2
  have HIN := Lib.hid hin
  clear hn hin
  have HX := Lib.hid ((Boxed.first w n g 25).next (below_new _ (.cells #[] 3)))
  have HV := Lib.hid hv
  have HO := Lib.hid (made_at (w.alloc (.cells #[.int .i64 n, .bool g] 25)) (w.heap.size + 1) (w.heap.size + 1) (by simp) (Nat.le_refl _))
  obtain ⟨y, c, hvv, hc, hm, hx⟩ := hv
  subst hvv
  have HL := Lib.hid hx
  clear hx hm
  unfold rd at *
  go_enter Try.func91, Try.ntmps91
  go_wp2_with fail
  go_loopw [7, 13] (fun v i wr => LRel n g xs (fun p => n - 1 - p) w.heap.size w v i wr) (fun _ i _ => xs.length - (intOf i).toNat)
  case atStart => exact ⟨HX.out, 0, Nat.zero_le _, rfl, HO.out⟩
  case round =>
    obtain ⟨hx, k, hk, rfl, hown⟩ := hrel
    clear HX HO
    have HX := Lib.hid hx
    clear hx
    generalize hys : ((xs.take k).map fun p => n - 1 - p).map iv = ys at hown
    have HYS := Lib.hid hys
    have HOW := Lib.hid hown
    clear hown hys
    by_cases hlt : k < xs.length
    · obtain ⟨x, hxk⟩ := get_some hlt
      obtain ⟨b, o, rfl, hbl, hcx0⟩ := HL.out k x hxk
      have hxin := HIN.out k x hxk
      have HXK := Lib.hid hxk
      have hcx : wr.cell? ⟨b, o + k, none⟩ = some (.int .i64 x) := (HX.out.below.cell (p := ⟨b, o + k, none⟩) hbl).trans hcx0
      have h0 := HX.out.c0
      have h1 := HX.out.c1
      have hcc := HC.out x wr hxin ⟨by omega, by omega⟩
      have HCC := Lib.hid hcc
      clear hcx0 hxk hcc
      go_wp2_with fail
      refine HCC.out.mono ?_
      rintro e w2 ⟨rfl, hb⟩
      have HX := Lib.hid (HX.out.next hb)
      have HOW := Lib.hid (owns_below HOW.out hb)
      clear hb h0 h1 hcx
      go_wp2_with (at_builtin; refine wpList_append_own _ rfl _ _ 26 rfl (w.heap.size + 1) 3 i0 (.int .i64 0) 1 8 Try.underlying26 hi hz0 hz1 hz2 rfl (by decide) _ _ _ rfl (HOW.out.alloc _) ⟨w2.heap.size, 0, none⟩ 1 1 [.int .i64 (n - 1 - x)] rfl rfl (cell_one_new _ _ _) ?c2 ?c3 ?c4 ?c5 ?_)
      case c2 => first | (intro u hu; simp at hu; subst hu; rfl) | rfl
      case c3 => unfold maxLen; omega
      case c4 => omega
      case c5 => have := HX.out.size; simp; omega
      intro v' w9 hown' hgrow _
      have HX := Lib.hid (boxed_append HX.out hgrow (fun b hb => (owns_block HOW.out b hb).1))
      have HOW' := Lib.hid hown'
      clear hgrow hown' HOW
      go_wp2_with fail
      go_roundw
      case rel => exact lrel_next2 (f := fun p => n - 1 - p) HYS.out HXK.out (by go_num) HX.out HOW'.out
      case measure => simp [intOf]; omega
    · have hke : k = xs.length := by omega
      have HE := Lib.hid hke
      clear hke
      go_wp2_with fail
      go_ret
      exact lrel_endI (f := fun p => n - 1 - p) HE.out HX.out (by rw [HYS.out]; exact HOW.out)
set_option maxHeartbeats 800000 in
theorem reform_mirror (n : Int) (g : Bool) (v : Value) (xs : List Int) (w : World) (hv : ReadsI w v xs) :
    Calls Try.prog 51 #[rd n g, v, .func (.func 52) #[] #[]] w (OwnsB w.heap.size (formR n g xs (fun p => n - 1 - p)).1 (formR n g xs (fun p => n - 1 - p)).2 w) := by
  have HX := Lib.hid (Boxed.first w n g 25)
  have HV := Lib.hid hv
  have HVB := Lib.hid (hv.below (below_new w (.cells #[.int .i64 n, .bool g] 25)))
  obtain ⟨y, c, hvv, hc, hm, hx⟩ := hv
  subst hvv
  clear hx hm
  have HW := Lib.hid (fun v w hv => areWalks_one n g v xs w hv)
  have HF := Lib.hid (fun w hv hn hin hl  => formed_mirror n g (.slice y xs.length c) xs w hv hn hin hl )
  unfold rd at *
  go_enter Try.func51, Try.ntmps51
  go_wp2_with fail
  refine (HW.out _ _ (one_list_at HVB.out _ (by simp))).mono ?_
  rintro e w1 ⟨rfl, hb⟩
  have HX := Lib.hid ((HX.out.next (below_new _ _)).next hb)
  clear hb
  have hs := HX.out.size
  have h0 := HX.out.c0
  have h1 := HX.out.c1
  cases hw : walkD n g xs
  · go_wp2_with fail
    go_ret2
    exact owns_R (zs := []) (b := false) (by simp [formR, hw]) (owns_out (HX.out.next (below_new _ _)) (made_at w1 (w.heap.size + 1) w1.heap.size rfl hs))
  · have hwk := (walkD_iff n g xs).1 hw
    have hn := (roadB_iff n g).1 hwk.1
    have HN := Lib.hid (show 2 ≤ n ∧ n ≤ 24 from ⟨hn.1, hn.2.1⟩)
    have hl61 := hwk.2.2.1
    have HIN := Lib.hid hwk.2.2.2.1
    have HK := Lib.hid hw
    clear hwk hw hn
    go_wp2_with fail
    refine (HF.out _ (HV.out.below HX.out.below) HN.out HIN.out (by omega) ).mono ?_
    rintro e w2 ⟨u, rfl, ho, hb⟩
    have HX := Lib.hid (HX.out.next hb)
    have HO : Hid (w2.ownsRow w.heap.size _ _ _ _ _) := Lib.hid (owns_lower ho (Nat.le_of_lt hs))
    clear hb ho h0 h1
    go_wp2_with fail
    go_ret2
    exact owns_R (zs := xs.map fun p => n - 1 - p) (b := true) (by simp [formR, HK.out]) ⟨u, rfl, HO.out, HX.out.below⟩
theorem impl_MirrorWalk (n : Int) (g : Bool) (v : Value) (xs : List Int) (w : World) (hv : ReadsI w v xs) :
    Calls Try.prog 16 #[rd n g, v] w (OwnsB w.heap.size (mirrorR n g xs).1 (mirrorR n g xs).2 w) := by
  have HF := Lib.hid (fun w hv => reform_mirror n g v xs w hv)
  have HX := Lib.hid (Boxed.first w n g 25)
  have HVB := Lib.hid (hv.below (below_new w (.cells #[.int .i64 n, .bool g] 25)))
  clear hv
  unfold rd at *
  go_enter Try.func16, Try.ntmps16
  go_wp2_with fail
  refine (HF.out _ HVB.out).mono ?_
  rintro e w1 ⟨u, rfl, ho, hb⟩
  have HX := Lib.hid (HX.out.next hb)
  have HO : Hid (w1.ownsRow w.heap.size _ _ _ _ _) := Lib.hid (owns_lower ho (by simp))
  clear hb ho
  go_wp2_with fail
  go_ret2
  exact ⟨u, rfl, HO.out, HX.out.below⟩
theorem shift1_any (n : Int) (g : Bool) (p d : Int) (bb : Nat) (w : World) (hn : 2 ≤ n ∧ n ≤ 24) (hp : 0 ≤ p ∧ p < n) (hd : 0 ≤ d ∧ d < n) (hbb : bb < w.heap.size) (hc : w.cell? ⟨bb, 0, none⟩ = some (.int .i64 d)) :
    Calls Try.prog 63 #[rd n g, .int .i64 p, .pointer (some ⟨bb, 0, none⟩)] w fun e w' => e = .returned (.int .i64 ((p + d) % n)) ∧ Below w.heap.size w w' := by
  have HX := Lib.hid (Boxed.first w n g 25)
  have hcb : (w.alloc (.cells #[.int .i64 n, .bool g] 25)).cell? ⟨bb, 0, none⟩ = some (.int .i64 d) := ((below_new w _).cell (p := ⟨bb, 0, none⟩) hbb).trans hc
  have hnz : n ≠ 0 := by omega
  have hs : 0 ≤ p + d := by omega
  unfold rd
  go_enter Try.func63, Try.ntmps63
  go_wp2_with fail
  generalize w.alloc (Obj.cells #[Value.int IntKind.i64 n, Value.bool g] 25) = w1 at *
  have h0 := HX.out.c0
  go_wp2
  go_ret
  exact ⟨rfl, HX.out.below⟩
set_option maxHeartbeats 800000 in
theorem formed_shift (n : Int) (g : Bool) (v : Value) (xs : List Int) (d : Int) (bb : Nat) (w : World) (hv : ReadsI w v xs) (hn : 2 ≤ n ∧ n ≤ 24) (hin : Inside n xs) (hlen : xs.length ≤ 1048576) (hbb : bb < w.heap.size) (hcb : w.cell? ⟨bb, 0, none⟩ = some (.int .i64 d)) (hd : 0 ≤ d ∧ d < n) :
    Calls Try.prog 91 #[rd n g, v, .func (.func 63) #[] #[.pointer (some ⟨bb, 0, none⟩)]] w (OwnsI w.heap.size (xs.map fun p => (p + d) % n) w) := by
  obtain ⟨i0, hi, hz0, hz1, hz2⟩ := info_parts infoInt
  have HC := Lib.hid (fun p w hp hn hb hc => shift1_any n g p d bb w hn hp hd hb hc)
  have hn1 := hn.1
  have hn2 := hn.2
  have HIN := Lib.hid hin
  clear hn hin
  have HX := Lib.hid ((Boxed.first w n g 25).next (below_new _ (.cells #[] 3)))
  have HV := Lib.hid hv
  have HO := Lib.hid (made_at (w.alloc (.cells #[.int .i64 n, .bool g] 25)) (w.heap.size + 1) (w.heap.size + 1) (by simp) (Nat.le_refl _))
  obtain ⟨y, c, hvv, hc, hm, hx⟩ := hv
  subst hvv
  have HL := Lib.hid hx
  clear hx hm
  unfold rd at *
  go_enter Try.func91, Try.ntmps91
  go_wp2_with fail
  go_loopw [7, 13] (fun v i wr => LRel n g xs (fun p => (p + d) % n) w.heap.size w v i wr) (fun _ i _ => xs.length - (intOf i).toNat)
  case atStart => exact ⟨HX.out, 0, Nat.zero_le _, rfl, HO.out⟩
  case round =>
    obtain ⟨hx, k, hk, rfl, hown⟩ := hrel
    clear HX HO
    have HX := Lib.hid hx
    clear hx
    generalize hys : ((xs.take k).map fun p => (p + d) % n).map iv = ys at hown
    have HYS := Lib.hid hys
    have HOW := Lib.hid hown
    clear hown hys
    by_cases hlt : k < xs.length
    · obtain ⟨x, hxk⟩ := get_some hlt
      obtain ⟨b, o, rfl, hbl, hcx0⟩ := HL.out k x hxk
      have hxin := HIN.out k x hxk
      have HXK := Lib.hid hxk
      have hcx : wr.cell? ⟨b, o + k, none⟩ = some (.int .i64 x) := (HX.out.below.cell (p := ⟨b, o + k, none⟩) hbl).trans hcx0
      have h0 := HX.out.c0
      have h1 := HX.out.c1
      have hcc := HC.out x wr hxin ⟨by omega, by omega⟩ (Nat.lt_of_lt_of_le hbb HX.out.below.size) ((HX.out.below.cell (p := ⟨bb, 0, none⟩) hbb).trans hcb)
      have HCC := Lib.hid hcc
      clear hcx0 hxk hcc
      go_wp2_with fail
      refine HCC.out.mono ?_
      rintro e w2 ⟨rfl, hb⟩
      have HX := Lib.hid (HX.out.next hb)
      have HOW := Lib.hid (owns_below HOW.out hb)
      clear hb h0 h1 hcx
      go_wp2_with (at_builtin; refine wpList_append_own _ rfl _ _ 26 rfl (w.heap.size + 1) 3 i0 (.int .i64 0) 1 8 Try.underlying26 hi hz0 hz1 hz2 rfl (by decide) _ _ _ rfl (HOW.out.alloc _) ⟨w2.heap.size, 0, none⟩ 1 1 [.int .i64 ((x + d) % n)] rfl rfl (cell_one_new _ _ _) ?c2 ?c3 ?c4 ?c5 ?_)
      case c2 => first | (intro u hu; simp at hu; subst hu; rfl) | rfl
      case c3 => unfold maxLen; omega
      case c4 => omega
      case c5 => have := HX.out.size; simp; omega
      intro v' w9 hown' hgrow _
      have HX := Lib.hid (boxed_append HX.out hgrow (fun b hb => (owns_block HOW.out b hb).1))
      have HOW' := Lib.hid hown'
      clear hgrow hown' HOW
      go_wp2_with fail
      go_roundw
      case rel => exact lrel_next2 (f := fun p => (p + d) % n) HYS.out HXK.out (by go_num) HX.out HOW'.out
      case measure => simp [intOf]; omega
    · have hke : k = xs.length := by omega
      have HE := Lib.hid hke
      clear hke
      go_wp2_with fail
      go_ret
      exact lrel_endI (f := fun p => (p + d) % n) HE.out HX.out (by rw [HYS.out]; exact HOW.out)
set_option maxHeartbeats 800000 in
theorem reform_shift (n : Int) (g : Bool) (v : Value) (xs : List Int) (d : Int) (bb : Nat) (w : World) (hv : ReadsI w v xs) (hbb : bb < w.heap.size) (hcb : w.cell? ⟨bb, 0, none⟩ = some (.int .i64 d)) (hd : 0 ≤ d ∧ d < n) :
    Calls Try.prog 51 #[rd n g, v, .func (.func 63) #[] #[.pointer (some ⟨bb, 0, none⟩)]] w (OwnsB w.heap.size (formR n g xs (fun p => (p + d) % n)).1 (formR n g xs (fun p => (p + d) % n)).2 w) := by
  have HX := Lib.hid (Boxed.first w n g 25)
  have HV := Lib.hid hv
  have HVB := Lib.hid (hv.below (below_new w (.cells #[.int .i64 n, .bool g] 25)))
  obtain ⟨y, c, hvv, hc, hm, hx⟩ := hv
  subst hvv
  clear hx hm
  have HW := Lib.hid (fun v w hv => areWalks_one n g v xs w hv)
  have HF := Lib.hid (fun w hv hn hin hl hbb hcb hd => formed_shift n g (.slice y xs.length c) xs d bb w hv hn hin hl hbb hcb hd)
  unfold rd at *
  go_enter Try.func51, Try.ntmps51
  go_wp2_with fail
  refine (HW.out _ _ (one_list_at HVB.out _ (by simp))).mono ?_
  rintro e w1 ⟨rfl, hb⟩
  have HX := Lib.hid ((HX.out.next (below_new _ _)).next hb)
  clear hb
  have hs := HX.out.size
  have h0 := HX.out.c0
  have h1 := HX.out.c1
  cases hw : walkD n g xs
  · go_wp2_with fail
    go_ret2
    exact owns_R (zs := []) (b := false) (by simp [formR, hw]) (owns_out (HX.out.next (below_new _ _)) (made_at w1 (w.heap.size + 1) w1.heap.size rfl hs))
  · have hwk := (walkD_iff n g xs).1 hw
    have hn := (roadB_iff n g).1 hwk.1
    have HN := Lib.hid (show 2 ≤ n ∧ n ≤ 24 from ⟨hn.1, hn.2.1⟩)
    have hl61 := hwk.2.2.1
    have HIN := Lib.hid hwk.2.2.2.1
    have HK := Lib.hid hw
    clear hwk hw hn
    go_wp2_with fail
    refine (HF.out _ (HV.out.below HX.out.below) HN.out HIN.out (by omega) (Nat.lt_of_lt_of_le hbb HX.out.below.size) ((HX.out.below.cell (p := ⟨bb, 0, none⟩) hbb).trans hcb) hd).mono ?_
    rintro e w2 ⟨u, rfl, ho, hb⟩
    have HX := Lib.hid (HX.out.next hb)
    have HO : Hid (w2.ownsRow w.heap.size _ _ _ _ _) := Lib.hid (owns_lower ho (Nat.le_of_lt hs))
    clear hb ho h0 h1
    go_wp2_with fail
    go_ret2
    exact owns_R (zs := xs.map fun p => (p + d) % n) (b := true) (by simp [formR, HK.out]) ⟨u, rfl, HO.out, HX.out.below⟩
noncomputable def shiftR (n : Int) (g : Bool) (xs : List Int) (d : Int) : List Int × Bool := if walkD n g xs = true ∧ g = true ∧ 0 ≤ d ∧ d < n then (xs.map (fun p => (p + d) % n), true) else ([], false)
set_option maxHeartbeats 1600000 in
set_option maxRecDepth 20000 in
theorem spec_ShiftWalk (n : Int) (g : Bool) (v : Value) (xs : List Int) (d : Int) (w : World) (hv : ReadsI w v xs) :
    Calls Try.prog 25 #[rd n g, v, .int .i64 d] w (OwnsB w.heap.size (shiftR n g xs d).1 (shiftR n g xs d).2 w) := by
  obtain ⟨i0, hi, hz0, hz1, hz2⟩ := info_parts infoInt
  have HIn := Lib.hid (fun w => l1In_any d 0 (n - 1) w)
  have HX0 := Lib.hid (Boxed.first w n g 25)
  have HV := Lib.hid hv
  have HVB := Lib.hid (hv.below (below_new w (.cells #[.int .i64 n, .bool g] 25)))
  have HO0 := Lib.hid (made_at (w.alloc (.cells #[.int .i64 n, .bool g] 25)) (w.heap.size + 1) (w.heap.size + 1) (by simp) (Nat.le_refl _))
  obtain ⟨y, c, hvv, hc, hm, hx⟩ := hv
  subst hvv
  unfold maxLen at hm
  have HL := Lib.hid hx
  clear hx
  have HW := Lib.hid (fun v w hv => l2Walk_is n g v xs w hv)
  unfold rd at *
  go_enter Try.func25, Try.ntmps25
  go_wp2_with fail
  refine (HW.out _ _ (HVB.out.below (below_new _ _))).mono ?_
  rintro e w1 ⟨rfl, hb⟩
  have HX := Lib.hid ((HX0.out.next (below_new _ _)).next hb)
  have HO := Lib.hid (owns_below HO0.out hb)
  clear hb HX0 HO0
  have hb0 := HX.out.c0
  have hb1 := HX.out.c1
  cases hw : walkD n g xs
  · have HR := Lib.hid (show shiftR n g xs d = ([], false) from if_neg (fun h => by rw [hw] at h; cases h.1))
    go_wp2_with fail
    go_ret2
    exact owns_R (zs := []) (b := false) HR.out (owns_out HX.out HO.out)
  · have hwk := (walkD_iff n g xs).1 hw
    have hn := (roadB_iff n g).1 hwk.1
    have hn1 := hn.1
    have hn2 := hn.2.1
    have hl61 := hwk.2.2.1
    have HIN := Lib.hid hwk.2.2.2.1
    have HK := Lib.hid hw
    clear hwk hw hn
    by_cases hg : g = true
    · by_cases hd : 0 ≤ d ∧ d < n
      · have hin := HIn.out
        rw [show (decide ((0 : Int) ≤ d) && decide (d ≤ n - 1)) = true by simp; omega] at hin
        have HIn := Lib.hid hin
        have HR := Lib.hid (show shiftR n g xs d = (xs.map (fun p => (p + d) % n), true) from if_pos ⟨HK.out, hg, hd⟩)
        clear hin
        subst hg
        go_wp2_with fail
        refine (HIn.out _).mono ?_
        rintro e w' ⟨rfl, rfl⟩
        clear hb0 hb1
        go_wp2_with fail
        go_loopw [8, 9] (fun v i wr => LRel n true xs (fun p => (p + d) % n) w.heap.size w v i wr) (fun _ i _ => xs.length - (intOf i).toNat)
        case atStart => exact ⟨HX.out, 0, Nat.zero_le _, rfl, HO.out⟩
        case round =>
          obtain ⟨hx, k, hk, rfl, hown⟩ := hrel
          clear HX HO
          have HX := Lib.hid hx
          clear hx
          have HOW := Lib.hid hown
          clear hown
          by_cases hlt : k < xs.length
          · obtain ⟨x, hxk⟩ := get_some hlt
            obtain ⟨b, o, rfl, hbl, hcx0⟩ := HL.out k x hxk
            have hxin := HIN.out k x hxk
            have HXK := Lib.hid hxk
            have hi0 : 0 ≤ (k : Int) := by omega
            have hi1 : (k : Int) < xs.length := by omega
            have hnz : n ≠ 0 := by omega
            have hnz2 : (n == 0) = false := by simp; omega
            have hw1 : IntKind.i64.wrap (x + d) = x + d := IntWalk.i64_in _ (by omega)
            have ht : (x + d).tmod n = (x + d) % n := Int.tmod_eq_emod_of_nonneg (by omega)
            have hm0 := Int.emod_nonneg (x + d) hnz
            have hm1 := Int.emod_lt_of_pos (x + d) (show 0 < n by omega)
            have hw2 : IntKind.i64.wrap ((x + d) % n) = (x + d) % n := IntWalk.i64_in _ (by omega)
            have HW1 := Lib.hid hw1
            have HW2 := Lib.hid hw2
            have HT := Lib.hid ht
            clear hw1 hw2 ht hm0 hm1 hxk
            have hown := HOW.out
            have hkl : (k + 1) * 8 ≤ 140737488355328 := by omega
            go_wp2_with fail
            have hw1 := HW1.out
            have hw2 := HW2.out
            have ht := HT.out
            go_region_held3 (fun w' => Boxed w.heap.size n true w w' ∧ w'.cell? ⟨w.heap.size, 0, none⟩ = some (.int .i64 n) ∧ w'.cell? ⟨b, o + k, none⟩ = some (.int .i64 x))
              (first | exact sOf HX9 hbl hcx0 rfl | exact sOf (HX.out.next (below_drewN _ 1)) hbl hcx0 rfl | exact sOf ((HX.out.next (below_new _ _)).next (below_drewN _ 1)) hbl hcx0 rfl)
              ((refine step_append_lies _ (by rfl) _ _ _ (by rfl) (w.heap.size + 1) 3 i0 _ 1 8 Try.underlying26 hi hz0 hz1 hz2 rfl (by decide) _ k _ (by rfl) (owns_below (hown.alloc _) (below_drewN _ 1))
                    ⟨wr.heap.size, 0, none⟩ 1 1 [.int .i64 ((x + d) % n)] (by rfl) (by rfl) (World.news_of_block (cs := #[.int .i64 ((x + d) % n)]) (t := 3) (fr := (0, 0)) (heap_alloc_new wr _)) (by simp [Value.oneCell'])
                    (by decide) (by unfold maxLen; omega) hkl (by have := HX.out.size; simp; omega) (wr.heap.size + 1) (by simp) ?_; intro gg cap w9 hown' hgrow _ _; have HX9 := boxed_appendD HX.out hgrow (fun b hb => (owns_block hown b hb).1)))
            clear hw1 hw2 ht
            have HX := Lib.hid HX9
            go_wp2_with fail
            go_roundw
            case rel => exact lrel_next (f := fun p => (p + d) % n) HXK.out (by go_num) HX.out hown'
            case measure => simp [intOf]; omega
          · have hke : k = xs.length := by omega
            have HE := Lib.hid hke
            clear hke
            go_wp2_with fail
            go_ret2
            exact owns_R (zs := xs.map fun p => (p + d) % n) (b := true) HR.out (lrel_end (f := fun p => (p + d) % n) HE.out HX.out HOW.out)
      · have HR := Lib.hid (show shiftR n g xs d = ([], false) from if_neg (fun h => hd h.2.2))
        have hin := HIn.out
        rw [show (decide ((0 : Int) ≤ d) && decide (d ≤ n - 1)) = false by simp; omega] at hin
        have HIn := Lib.hid hin
        clear hin hd
        subst hg
        go_wp2_with fail
        refine (HIn.out _).mono ?_
        rintro e w' ⟨rfl, rfl⟩
        go_wp2_with fail
        go_ret2
        exact owns_R (zs := []) (b := false) HR.out (owns_out HX.out HO.out)
    · have HR := Lib.hid (show shiftR n g xs d = ([], false) from if_neg (fun h => hg h.2.1))
      have hgf : g = false := by cases g; rfl; exact absurd rfl hg
      clear hg
      subst hgf
      go_wp2_with fail
      go_ret2
      exact owns_R (zs := []) (b := false) HR.out (owns_out HX.out HO.out)
set_option maxHeartbeats 800000 in
theorem impl_ShiftWalk (n : Int) (g : Bool) (v : Value) (xs : List Int) (d : Int) (w : World) (hv : ReadsI w v xs) :
    Calls Try.prog 24 #[rd n g, v, .int .i64 d] w (OwnsB w.heap.size (shiftR n g xs d).1 (shiftR n g xs d).2 w) := by
  have HX := Lib.hid (Boxed.first w n g 25)
  have HV := Lib.hid hv
  obtain ⟨y, c, hvv, hc, hm, hx⟩ := hv
  subst hvv
  clear hx
  have HF := Lib.hid (fun bb w hv hbb hcb hd => reform_shift n g (.slice y xs.length c) xs d bb w hv hbb hcb hd)
  unfold rd at *
  go_enter Try.func24, Try.ntmps24
  by_cases hg : g = true
  · by_cases h0 : 0 ≤ d
    · by_cases h1 : d < n
      · subst hg
        go_wp2_with fail
        refine (HF.out (w.heap.size + 1) _ ((HV.out.below (below_new _ _)).below (below_new _ _)) (by simp) (cell_at _ _ _ _ _ (by simp) rfl) ⟨h0, h1⟩).mono ?_
        rintro e w1 ⟨u, rfl, ho, hb⟩
        have HX := Lib.hid ((HX.out.next (below_new _ _)).next hb)
        have HO : Hid (w1.ownsRow w.heap.size _ _ _ _ _) := Lib.hid (owns_lower ho (by simp; omega))
        have he : formR n true xs (fun p => (p + d) % n) = shiftR n true xs d := by
          unfold formR shiftR
          by_cases hw : walkD n true xs = true
          · rw [if_pos hw, if_pos ⟨hw, rfl, h0, h1⟩]
          · rw [if_neg hw, if_neg (fun h => hw h.1)]
        have HE := Lib.hid he
        clear hb ho he
        go_wp2_with fail
        go_ret2
        rw [← HE.out]
        exact ⟨u, rfl, HO.out, HX.out.below⟩
      · have hr : shiftR n g xs d = ([], false) := if_neg (fun h => h1 h.2.2.2)
        have HR := Lib.hid hr
        have HO := Lib.hid (made_at ((w.alloc (.cells #[.int .i64 n, .bool g] 25)).alloc (.cells #[.int .i64 d] 3)) (w.heap.size + 1) (w.heap.size + 2) (by simp) (by omega))
        clear hr
        subst hg
        go_wp2_with fail
        go_ret2
        exact owns_R (zs := []) (b := false) HR.out (owns_out ((HX.out.next (below_new _ _)).next (below_new _ _)) HO.out)
    · have hr : shiftR n g xs d = ([], false) := if_neg (fun h => h0 h.2.2.1)
      have HR := Lib.hid hr
      have HO := Lib.hid (made_at ((w.alloc (.cells #[.int .i64 n, .bool g] 25)).alloc (.cells #[.int .i64 d] 3)) (w.heap.size + 1) (w.heap.size + 2) (by simp) (by omega))
      clear hr
      subst hg
      go_wp2_with fail
      go_ret2
      exact owns_R (zs := []) (b := false) HR.out (owns_out ((HX.out.next (below_new _ _)).next (below_new _ _)) HO.out)
  · have hr : shiftR n g xs d = ([], false) := if_neg (fun h => hg h.2.1)
    have hgf : g = false := by cases g; rfl; exact absurd rfl hg
    have HR := Lib.hid hr
    have HO := Lib.hid (made_at ((w.alloc (.cells #[.int .i64 n, .bool g] 25)).alloc (.cells #[.int .i64 d] 3)) (w.heap.size + 1) (w.heap.size + 2) (by simp) (by omega))
    clear hr hg
    subst hgf
    go_wp2_with fail
    go_ret2
    exact owns_R (zs := []) (b := false) HR.out (owns_out ((HX.out.next (below_new _ _)).next (below_new _ _)) HO.out)
theorem shiftR_len (n : Int) (g : Bool) (xs : List Int) (d : Int) (h : xs.length ≤ 1048576) : (shiftR n g xs d).1.length ≤ 1048576 := by
  unfold shiftR
  split
  · simpa using h
  · simp
end Go.Proofs.Ytiokgnabiidlbaa
