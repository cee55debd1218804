/-
  What is proved: the contract of impl.lengthened: a list with one number more, in memory of its own. Conditions: a list that reads as numbers.
-/
import Derived.Test.YtekahkeddpngpaaFn24
import Derived.Test.YtekahkeddpngpaaBlk
import Derived.Test.YtekahkeddpngpaaRlb
namespace Go.Proofs.Ytekahkeddpngpaa
open Go.RowKit
set_option linter.unusedVariables false
set_option linter.unusedSimpArgs false

theorem lng_splice (o : List Int) : splice (List.replicate (o.length + 1) (Value.int .i64 0)) 0 (o.map iv) = o.map iv ++ [Value.int .i64 0] := by
  unfold splice
  simp [List.drop_replicate]
theorem lng_set (o : List Int) (x : Int) : ((o.map iv ++ [Value.int .i64 0]).toArray.setIfInBounds o.length (.int .i64 x)).toList = (o ++ [x]).map iv := by
  simp
theorem reads_cells {w : World} {a : Option Addr} {l c : Nat} {xs : List Int} (h : ReadsI w (.slice a l c) xs) : 0 < (xs.map iv).length → ∃ ad, a = some ad ∧ ∀ (j : Nat) v, (xs.map iv)[j]? = some v → w.cell? (ad.add j) = some v := by
  intro h0
  obtain ⟨a', c', e, hc, hm, hx⟩ := h
  cases e
  obtain ⟨x0, hx0⟩ := get_some (xs := xs) (k := 0) (by simpa using h0)
  obtain ⟨b, o, ha, _⟩ := hx 0 x0 hx0
  refine ⟨_, ha, fun j v hj => ?_⟩
  rw [List.getElem?_map] at hj
  cases hxj : xs[j]? with
  | none => rw [hxj] at hj; cases hj
  | some x =>
    rw [hxj] at hj
    cases hj
    obtain ⟨b', o', e, _, hcell⟩ := hx j x hxj
    rw [ha] at e
    cases e
    have hadd : (⟨b, o, none⟩ : Addr).add j = ⟨b, o + j, none⟩ := by
      unfold Addr.add
      by_cases h : j = 0 <;> simp [h]
    rw [hadd]
    exact hcell
set_option maxHeartbeats 1600000 in
set_option maxRecDepth 20000 in
theorem lengthened_any (v : Value) (o : List Int) (x : Int) (w : World) (hv : ReadsI w v o) (hl : o.length ≤ 1000) :
    Calls Try.prog 80 #[v, .int .i64 x] w (OwnsI w.heap.size (o ++ [x]) w) := by
  obtain ⟨i0, hi, hz0, hz1, hz2⟩ := info_parts infoInt
  have hszi : (Try.prog.info? 3).map (·.size) = some 1 := by kernel_rfl
  have HV := Lib.hid hv
  obtain ⟨y, c, rfl, hc, hm, _⟩ := hv
  clear hm
  have hwl : IntKind.i64.wrap ((o.length : Int) + 1) = (o.length : Int) + 1 := IntWalk.i64_in _ (by omega)
  have HSP := Lib.hid (lng_splice o)
  have HSE := Lib.hid (lng_set o x)
  go_enter Try.func80, Try.ntmps80
  go_wp2_with (at_make; refine wpList_make_full _ rfl _ _ 24 rfl w.heap.size 3 i0 (.int .i64 0) 1 Try.underlying24 hi hz0 hz1 .i64 .i64 _ _ (o.length + 1) rfl rfl (by omega) (by omega) ?c1 ?c2 ?c3 ?_)
  case c1 => rw [hz2]; omega
  case c2 => unfold maxLen; omega
  case c3 => exact Nat.le_refl _
  intro w1 hown hgrow
  have hb1 : Below w.heap.size w w1 := (Below.refl _ _).grown hgrow (Nat.le_refl _) (fun k e => by cases e)
  have hbk : w1.heap[w.heap.size]? = some (.cells (List.replicate (o.length + 1) (Value.int .i64 0)).toArray 3 (0, 0)) := by
    rcases hown.2 with ⟨h, _⟩ | ⟨g, cap, cur, h, _, hb, _, _, hcs, htk⟩
    · cases h
    · cases h
      rw [hb]
      have hcur : cur.toList = List.replicate (o.length + 1) (Value.int .i64 0) := by
        rw [List.take_of_length_le (by rw [Array.length_toList, hcs]; exact Nat.le_refl _)] at htk
        rw [htk]
        apply List.ext_getElem?
        intro j
        by_cases hj : j < o.length + 1
        · simp [madeCells, hj, Nat.mod_one]
        · simp [madeCells, hj]
      rw [← hcur]
  have HROW := Lib.hid hbk
  have HB1 := Lib.hid hb1
  have HCL := Lib.hid (reads_cells (HV.out.below hb1))
  clear hown hgrow hb1 hbk
  go_wp2_with (with_reducible refine wpList_copy_splice rfl _ _ _ _ rfl 3 Try.underlying24 hszi _ _ _ _ _ _ rfl rfl w.heap.size 0 (List.replicate (o.length + 1) (Value.int .i64 0)) 3 HROW.out (o.map iv) ?f1 ?f2 ?f3 ?f4 w.heap.size w HB1.out (Nat.le_refl _) ?_)
  case f1 => simp
  case f2 =>
    intro h
    obtain ⟨ad, had, hc⟩ := HCL.out (by simpa using h)
    exact ⟨ad, had, fun j z hz => hc j (iv z) (by rw [List.getElem?_map, hz]; rfl)⟩
  case f3 => simp
  case f4 => intro u hu; simp at hu; obtain ⟨z, _, rfl⟩ := hu; rfl
  intro w2 hG2 hB2
  have HB2 := Lib.hid hB2
  have hbk2 : Blk w2 w.heap.size (o.map iv ++ [Value.int .i64 0]).toArray 3 := by
    have h := hG2.out
    rw [HSP.out] at h
    exact h
  have c9 : w2.cell? ⟨w.heap.size, o.length, none⟩ = some (.int .i64 0) := by rw [hbk2.cell]; simp
  have f9 := hbk2.free o.length
  have HBS := Lib.hid (blk_setS (j := o.length) (.int .i64 x) hbk2)
  have HB3 := Lib.hid (HB2.out.setCell (p := ⟨w.heap.size, o.length, none⟩) (Nat.le_refl _) (.int .i64 x))
  have hi0 : 0 ≤ (o.length : Int) := by omega
  have hi1 : (o.length : Int) < (o.length : Int) + 1 := by omega
  clear hG2 hB2 hbk2
  go_wp2_with fail
  go_ret
  exact ⟨_, rfl, ⟨by simp, .inr ⟨w.heap.size, o.length + 1, _, by simp, Nat.le_refl _, HBS.out, by simp, by unfold maxLen; omega, by simp, by
    rw [HSE.out]
    exact List.take_of_length_le (by simp)⟩⟩, HB3.out⟩
end Go.Proofs.Ytekahkeddpngpaa
