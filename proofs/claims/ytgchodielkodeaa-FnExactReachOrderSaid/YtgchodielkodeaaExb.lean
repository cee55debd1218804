/-
  What is proved: the contracts of the model's and the program's runs of places: l6Fits, isRun, l6Run and RunPlaces. Conditions: those of each contract.
-/
import Derived.Test.YtgchodielkodeaaExc
import Derived.Test.YtgchodielkodeaaFn1
import Derived.Test.YtgchodielkodeaaMec
namespace Go.Proofs.Ytgchodielkodeaa
open Go.RowKit
set_option linter.unusedVariables false
set_option linter.unusedSimpArgs false

set_option maxHeartbeats 800000 in
set_option maxRecDepth 20000 in
theorem l6Run_any (n : Int) (g : Bool) (x m : Int) (w : World) (hn : 2 ≤ n ∧ n ≤ 24) (hx : 0 ≤ x ∧ x < n) (hm : 0 ≤ m ∧ m ≤ 24) :
    Calls Try.prog 155 #[rd n g, .int .i64 x, .int .i64 m] w (OwnsI w.heap.size (runL n x m) w) := by
  obtain ⟨i0, hi, hz0, hz1, hz2⟩ := info_parts infoInt
  have HX := Lib.hid ((Boxed.first w n g 28).next (below_new _ (.cells #[] 3)))
  have HO := Lib.hid (made_at (w.alloc (.cells #[.int .i64 n, .bool g] 28)) (w.heap.size + 1) (w.heap.size + 1) (by simp) (Nat.le_refl _))
  have hnz : n ≠ 0 := by omega
  have hul := upTo_len m
  unfold rd at *
  go_enter Try.func155, Try.ntmps155
  go_wp2_with fail
  go_loopw [7, 8] (fun v i wr => LRel n g (upTo m) (runF n x) w.heap.size w v i wr) (fun _ i _ => m.toNat - (intOf i).toNat)
  case atStart => exact ⟨HX.out, 0, Nat.zero_le _, rfl, HO.out⟩
  case round =>
    obtain ⟨hx9, k, hk, rfl, hown⟩ := hrel
    clear HX HO
    have HX := Lib.hid hx9
    clear hx9
    generalize hys : (((upTo m).take k).map (runF n x)).map iv = ys at hown
    have HYS := Lib.hid hys
    have HOW := Lib.hid hown
    clear hown hys
    have h0 := HX.out.c0
    by_cases hlt : (k : Int) < m
    · have hxk := upTo_at m k (by omega)
      have HXK := Lib.hid hxk
      have hsum : 0 ≤ x + (k : Int) := by omega
      have hrf : (x + (k : Int)) % n = runF n x k := rfl
      clear hxk
      go_wp2_with (at_builtin; refine wpList_append_own _ rfl _ _ 41 rfl (w.heap.size + 1) 3 i0 (.int .i64 0) 1 8 Try.underlying41 hi hz0 hz1 hz2 rfl (by decide) _ _ _ rfl (HOW.out.alloc _) ⟨wr.heap.size, 0, none⟩ 1 1 [.int .i64 (runF n x k)] rfl rfl (cell_one_new _ _ _) ?c2 ?c3 ?c4 ?c5 ?_)
      case c2 => intro u hu; simp at hu; subst hu; rfl
      case c3 => unfold maxLen; omega
      case c4 => omega
      case c5 => have := HX.out.size; simp; omega
      intro v' w9 hown' hgrow _
      have HX := Lib.hid (boxed_append HX.out hgrow (fun b hb => (owns_block HOW.out b hb).1))
      have HOW' := Lib.hid hown'
      clear hgrow hown' HOW h0
      go_wp2_with fail
      go_roundw
      case rel => exact lrel_next2 (f := runF n x) HYS.out HXK.out (by go_num) HX.out HOW'.out
      case measure => simp [intOf] <;> omega
    · have HE := Lib.hid (show k = (upTo m).length by omega)
      go_wp2_with fail
      go_ret
      exact lrel_endI (xs := upTo m) (f := runF n x) HE.out HX.out (by rw [HYS.out]; exact HOW.out)
/-- what RunPlaces answers -/
def runsR (n : Int) (g : Bool) (x m : Int) : List Int × Bool := if fitsB n g x m then (runL n x m, true) else ([], false)
theorem runsR_len (n : Int) (g : Bool) (x m : Int) : (runsR n g x m).1.length ≤ 1048576 := by
  unfold runsR
  cases hf : fitsB n g x m
  · simp
  · have h1 := (fitsB_iff n g x m).1 hf
    have h2 := (roadB_iff n g).1 ((placeB_iff n g x).1 h1.1).1
    have h3 := runL_len n x m
    simp only [if_true]
    omega
end Go.Proofs.Ytgchodielkodeaa
