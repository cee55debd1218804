/-
  What is proved: the contract of a searcher's legs: the walks from each turning place to the next. Conditions: a valid line, a place on it, turning places of it.
-/
import Derived.Test.YtnclfdfnhhicdaaLol
import Derived.Test.YtnclfdfnhhicdaaStm
import Derived.Test.YtnclfdfnhhicdaaSec
import Derived.Test.YtnclfdfnhhicdaaFn13
namespace Go.Proofs.Ytnclfdfnhhicdaa
open Go.RowKit
set_option linter.unusedVariables false
set_option linter.unusedSimpArgs false

/-- the first k legs -/
def legsL (n a : Int) (xs : List Int) (k : Nat) : List (List Int) := (List.range k).map fun j => straightL n false (plc a xs j) (plc a xs (j + 1))
theorem legsL_len (n a : Int) (xs : List Int) (k : Nat) : (legsL n a xs k).length = k := by simp [legsL]
theorem legsL_next (n a : Int) (xs : List Int) (k : Nat) : legsL n a xs k ++ [straightL n false (plc a xs k) (plc a xs (k + 1))] = legsL n a xs (k + 1) := by
  simp [legsL, List.range_succ]
theorem legsL_at (n a : Int) (xs : List Int) (k j : Nat) (h : j < k) : (legsL n a xs k)[j]? = some (straightL n false (plc a xs j) (plc a xs (j + 1))) := by simp [legsL, h]
theorem straight_len {n a b : Int} (hn : 2 ≤ n ∧ n ≤ 24) (ha : 0 ≤ a ∧ a < n) (hb : 0 ≤ b ∧ b < n) : (straightL n false a b).length ≤ 1048576 := by
  have := straightR_len n false a b
  rw [straightR_yes (by rw [Bool.and_eq_true, placeB_iff, placeB_iff]; exact ⟨⟨(roadB_iff n false).2 ⟨hn.1, hn.2, fun h => by cases h⟩, ha⟩, (roadB_iff n false).2 ⟨hn.1, hn.2, fun h => by cases h⟩, hb⟩)] at this
  exact this
/-- what stays: the searcher's block -/
abbrev KeepL (base : Nat) (n a x : Int) (w w1 : World) : Prop :=
  Below base w w1 ∧ Blk w1 base #[.int .i64 n, .bool false, .int .i64 a, .int .i64 x] 60
theorem keepL_next {base : Nat} {n a x : Int} {w w1 w2 : World} (h : KeepL base n a x w w1) (hb : Below w1.heap.size w1 w2) : KeepL base n a x w w2 :=
  ⟨h.1.trans (hb.mono (Nat.le_of_lt h.2.lt)), h.2.below hb⟩
theorem keepL_at {base m : Nat} {n a x : Int} {w w1 w2 : World} (h : KeepL base n a x w w1) (hm : base < m) (hb : Below m w1 w2) : KeepL base n a x w w2 :=
  ⟨h.1.trans (hb.mono (Nat.le_of_lt hm)), h.2.belowAt hm hb⟩
def LegR (n a x : Int) (xs : List Int) (base : Nat) (w : World) (lv av i : Value) (wr : World) : Prop :=
  KeepL base n a x w wr ∧ ∃ k : Nat, k ≤ xs.length ∧ i = .int .i64 k ∧ av = .int .i64 (plc a xs k) ∧ OwnL (base + 1) lv (legsL n a xs k) wr
theorem plc_in {n a : Int} {xs : List Int} (ha : 0 ≤ a ∧ a < n) (hin : Inside n xs) : ∀ k, k ≤ xs.length → 0 ≤ plc a xs k ∧ plc a xs k < n
  | 0, _ => ha
  | k + 1, hk => by
    obtain ⟨z, hz⟩ := get_some (show k < xs.length by omega)
    rw [plc_next hz]
    exact hin k z hz
set_option maxHeartbeats 1600000 in
set_option maxRecDepth 20000 in
theorem legs_any (n a x : Int) (v : Value) (xs : List Int) (w : World) (hv : ReadsI w v xs) (hl : lineB n false a = true) (hin : Inside n xs) (hlen : xs.length ≤ 1048576) :
    Calls Try.prog 69 #[sr n false a x, v] w fun e w' => ∃ u, e = .returned u ∧ OwnL w.heap.size u (legsL n a xs xs.length) w' ∧ Below w.heap.size w w' := by
  obtain ⟨i1, hi, hz0, hz1, hz2⟩ := info_parts infoInts
  obtain ⟨hn1, hn2, _, ha0, ha1⟩ := (lineB_iff n false a).1 hl
  have HPL := Lib.hid (plc_in ⟨ha0, ha1⟩ hin)
  have HIN := Lib.hid hin
  have HRB := Lib.hid ((roadB_iff n false).2 ⟨hn1, hn2, fun h => by cases h⟩)
  have HSW := Lib.hid (fun p q w => impl_StraightWalk n false p q w)
  have HK := Lib.hid (show KeepL w.heap.size n a x w (w.alloc (.cells #[.int .i64 n, .bool false, .int .i64 a, .int .i64 x] 60)) from ⟨below_new w _, blk_new w _ _⟩)
  have HO := Lib.hid (ownL_new (w.alloc (.cells #[.int .i64 n, .bool false, .int .i64 a, .int .i64 x] 60)) (w.heap.size + 1) (w.heap.size + 1) (by simp) (Nat.le_refl _))
  have HK2 := Lib.hid (keepL_next HK.out (below_new _ (.cells #[] 24)))
  obtain ⟨y, c, rfl, hc, hm, hx⟩ := hv
  have HL := Lib.hid hx
  unfold maxLen at hm
  clear hx hl hin HK
  unfold sr at *
  have h2 := HK2.out.2.cell 2
  unfold rd at *
  go_enter Try.func69, Try.ntmps69
  go_wp2_with fail
  clear h2
  go_loopw [5, 6, 16] (fun lv av i wr => LegR n a x xs w.heap.size w lv av i wr) (fun _ _ i _ => xs.length - (intOf i).toNat)
  case atStart => exact ⟨HK2.out, 0, Nat.zero_le _, rfl, rfl, HO.out⟩
  case round =>
    obtain ⟨hkp, k, hk, rfl, rfl, hown⟩ := hrel
    clear HO HK2
    have HK := Lib.hid hkp
    have HO := Lib.hid hown
    clear hkp hown
    by_cases hlt : k < xs.length
    · obtain ⟨z, hzk⟩ := get_some hlt
      obtain ⟨b, o, rfl, hbl, hcx0⟩ := HL.out k z hzk
      have hcx : wr.cell? ⟨b, o + k, none⟩ = some (.int .i64 z) := (HK.out.1.cell (p := ⟨b, o + k, none⟩) hbl).trans hcx0
      have HZK := Lib.hid hzk
      have hqq := HPL.out k hk
      have hzz := HIN.out k z hzk
      have hsr := straightR_yes (n := n) (g := false) (a := plc a xs k) (b := z) (by rw [Bool.and_eq_true, placeB_iff, placeB_iff]; exact ⟨⟨HRB.out, hqq⟩, HRB.out, hzz⟩)
      have HSR := Lib.hid hsr
      have hsl := straight_len (a := plc a xs k) (b := z) ⟨hn1, hn2⟩ hqq hzz
      have HSL := Lib.hid hsl
      have hpn := plc_next (a := a) hzk
      have HPN := Lib.hid hpn
      clear hcx0 hzk hsr hsl hpn
      generalize hpk : plc a xs k = q at *
      have HPK := Lib.hid hpk
      clear hpk
      have h0 := HK.out.2.cell 0
      have h1 := HK.out.2.cell 1
      go_wp2_with fail
      refine (HSW.out _ _ _).mono ?_
      rw [HSR.out]
      rintro e w2 ⟨u, rfl, ho, hb⟩
      have ho : w2.ownsRow wr.heap.size 3 1 u (straightL n false q z).length ((straightL n false q z).map iv) := ho
      have HU := Lib.hid ((rdT_of ho (by unfold maxLen; have := HSL.out; omega)).lower (Nat.succ_le_of_lt HK.out.2.lt))
      obtain ⟨ua, uc, huu, _⟩ := owns_shape ho
      generalize (straightL n false q z).length = ul at huu
      subst huu
      have HK := Lib.hid (keepL_next HK.out hb)
      have HO := Lib.hid (ownL_below HO.out hb)
      clear hb ho h0 h1 hcx
      obtain ⟨us, how, hus⟩ := HO.out
      have HUS := Lib.hid hus
      have HOW := Lib.hid how
      have hll := legsL_len n a xs k
      have hul : us.length = (legsL n a xs k).length := by have := how.1; omega
      have HUL := Lib.hid hul
      have HLB := Lib.hid (fun b hb => (ownL_block HO.out b hb).1)
      rw [hll] at HOW
      clear how hus hul
      go_wp2_with (at_builtin; go_loud (refine wpList_append_own _ rfl _ _ 50 rfl (w.heap.size + 1) 24 i1 (.slice none 0 0) 1 24 Try.underlying50 hi hz0 hz1 hz2 rfl (by decide) _ _ _ rfl (HOW.out.alloc _) ⟨w2.heap.size, 0, none⟩ 1 1 [.slice ua ul uc] rfl rfl (cell_one_new _ _ _) ?c2 ?c3 ?c4 ?c5 ?_))
      case c2 => intro u hu; simp at hu; subst hu; rfl
      case c3 => unfold maxLen; omega
      case c4 => omega
      case c5 => have := HK.out.2.lt; simp; omega
      intro v' w9 hown' hgrow _
      have HK9 := Lib.hid (keepL_at (keepL_next HK.out (below_new _ _)) (Nat.lt_succ_self _) (below_grown hgrow HLB.out (by have := HK.out.2.lt; simp; omega)))
      have HN := Lib.hid (ownL_append HO.out HUS.out HUL.out HU.out (by rw [hll]; exact hown') hgrow)
      clear hgrow hown'
      go_wp2_with fail
      go_roundw
      case rel =>
        refine ⟨HK9.out, k + 1, by omega, by go_num, ?_, ?_⟩
        · rw [HPN.out]
        · rw [← legsL_next, HPN.out, HPK.out]
          exact HN.out
      case measure => simp [intOf]; omega
    · have hke : k = xs.length := by omega
      subst hke
      go_wp2_with fail
      go_ret
      exact ⟨_, rfl, ownL_lower HO.out (Nat.le_succ _), HK.out.1⟩
end Go.Proofs.Ytnclfdfnhhicdaa
