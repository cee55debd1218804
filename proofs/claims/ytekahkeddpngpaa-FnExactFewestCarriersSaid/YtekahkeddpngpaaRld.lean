/-
  What is proved: the contracts of the model's and the program's tests of carriers, and AreCarriers of both. Conditions: lists that read as carriers.
-/
import Derived.Test.YtekahkeddpngpaaRla
import Derived.Deep.QuietTactic
import Derived.BigQuiet
import Derived.Deep.RegionHeld3
namespace Go.Proofs.Ytekahkeddpngpaa
open Go.RowKit
set_option linter.unusedVariables false
set_option linter.unusedSimpArgs false

/-- a carrier as the model asks -/
def crB (n : Int) (g : Bool) (c : Cr) : Bool := lineB n g c.s && (inB 0 48 c.r && inB 0 20 c.f)
theorem crB_on {n : Int} {g : Bool} (h : straightB n g = true) (c : Cr) : crB n g c = onB n g c := by
  obtain ⟨_, _, rfl⟩ := (straightB_iff n g).1 h
  unfold crB onB
  rw [lineB_place]
theorem csB_badM {n : Int} {g : Bool} {cs : List Cr} {j : Nat} {c : Cr} (hj : cs[j]? = some c) (h : crB n g c = false) : csB n g cs = false :=
  csB_no (fun h2 => by rw [crB_on h2.1, h2.2.2 j c hj] at h; cases h)
theorem get_cr {cs : List Cr} {k : Nat} (h : k < cs.length) : ∃ c, cs[k]? = some c := ⟨cs[k], List.getElem?_eq_getElem h⟩
theorem line_any (n : Int) (g : Bool) (a : Int) (w : World) :
    Calls Try.prog 105 #[rd n g, .int .i64 a] w fun e w' => e = .returned (.bool (lineB n g a)) ∧ Below w.heap.size w w' := by
  have HR := Lib.hid (fun w => l2Road_any n g w)
  have HI := Lib.hid (fun w => l1In_any a 0 (n - 1) w)
  have HX := Lib.hid (Boxed.first w n g 27)
  unfold rd at *
  go_enter Try.func105, Try.ntmps105
  go_wp2_with fail
  refine (HR.out _).mono ?_
  rintro e w1 ⟨rfl, hb⟩
  have HX := Lib.hid (HX.out.next hb)
  clear hb
  have h0 := HX.out.c0
  have h1 := HX.out.c1
  cases hr : roadB n g
  · go_wp2_with fail
    go_ret
    exact ⟨ret_bool (by simp [lineB, placeB, hr]), HX.out.below⟩
  · have hn := (roadB_iff n g).1 hr
    have hn1 := hn.1
    have hn2 := hn.2.1
    clear hn
    cases g
    · go_wp2_with fail
      refine (HI.out _).mono ?_
      rintro e w2 ⟨rfl, rfl⟩
      go_wp2_with fail
      go_ret
      refine ⟨ret_bool ?_, HX.out.below⟩
      by_cases ha : 0 ≤ a <;> by_cases hb : a < n
      · simp [lineB, placeB, hr, ha, hb]; omega
      · simp [lineB, placeB, hr, ha, hb]; omega
      · simp [lineB, placeB, hr, ha, hb]
      · simp [lineB, placeB, hr, ha, hb]
    · go_wp2_with fail
      go_ret
      exact ⟨ret_bool (by simp [lineB]), HX.out.below⟩
set_option maxHeartbeats 800000 in
theorem l7Carrier_any (n : Int) (g : Bool) (c : Cr) (w : World) :
    Calls Try.prog 92 #[rd n g, crv c] w fun e w' => e = .returned (.bool (crB n g c)) ∧ Below w.heap.size w w' := by
  have HP := Lib.hid (fun w => line_any n g c.s w)
  have HI1 := Lib.hid (fun w => inB_any c.r 0 48 w)
  have HI2 := Lib.hid (fun w => inB_any c.f 0 20 w)
  have HX := Lib.hid ((Boxed.first w n g 27).next (below_new _ (.cells (crc c) 60)))
  have HB := Lib.hid (blk_at (w.alloc (.cells #[.int .i64 n, .bool g] 27)) (crc c) 60 (w.heap.size + 1) (by simp))
  have HR := Lib.hid (show crB n g c = (lineB n g c.s && (inB 0 48 c.r && inB 0 20 c.f)) from rfl)
  unfold crv crc rd at *
  go_enter Try.func92, Try.ntmps92
  go_wp2_with fail
  refine (HP.out _).mono ?_
  rintro e w1 ⟨rfl, hb⟩
  have HX := Lib.hid (HX.out.next hb)
  have HB := Lib.hid (HB.out.below hb)
  clear hb
  have h1 := HB.out.cell 1
  have h2 := HB.out.cell 2
  cases hp : lineB n g c.s
  · go_wp2_with fail
    go_ret
    exact ⟨ret_bool (by rw [HR.out, hp]; rfl), HX.out.below⟩
  · go_wp2_with fail
    refine (HI1.out _).mono ?_
    rintro e w2 ⟨rfl, rfl⟩
    cases hd : inB 0 48 c.r
    · go_wp2_with fail
      go_ret
      exact ⟨ret_bool (by rw [HR.out, hp, hd]; rfl), HX.out.below⟩
    · go_wp2_with fail
      refine (HI2.out _).mono ?_
      rintro e w2 ⟨rfl, rfl⟩
      go_wp2_with fail
      go_ret
      exact ⟨ret_bool (by rw [HR.out, hp, hd]; rfl), HX.out.below⟩
set_option maxHeartbeats 800000 in
theorem onC_any (n : Int) (g : Bool) (c : Cr) (w : World) :
    Calls Try.prog 106 #[crv c, rd n g] w fun e w' => e = .returned (.bool (onB n g c)) ∧ Below w.heap.size w w' := by
  have HP := Lib.hid (fun v w hv => places_1 n g c.s v w hv)
  have HB := Lib.hid ((blk_new w (crc c) 60).below (below_new _ (.cells #[.int .i64 n, .bool g] 27)))
  have HW := Lib.hid ((below_new w (.cells (crc c) 60)).trans ((below_new _ (.cells #[.int .i64 n, .bool g] 27)).mono (by simp)))
  have HR := Lib.hid (show onB n g c = (placeB n g c.s && (inB 0 48 c.r && inB 0 20 c.f)) from rfl)
  unfold crv crc rd at *
  go_enter Try.func106, Try.ntmps106
  go_wp2_with fail
  refine (HP.out _ _ (place_one_at (w.heap.size + 1 + 1) (by simp))).mono ?_
  rintro e w1 ⟨rfl, hb⟩
  have HW := Lib.hid (HW.out.trans (((below_new _ _).trans (hb.mono (by simp))).mono (by simp; omega)))
  have HB := Lib.hid ((HB.out.below (below_new _ _)).below hb)
  clear hb
  have h1 := HB.out.cell 1
  have h2 := HB.out.cell 2
  cases hp : placeB n g c.s
  · go_wp2_with fail
    go_ret
    exact ⟨ret_bool (by rw [HR.out, hp]; rfl), HW.out⟩
  · by_cases hd : 0 ≤ c.r
    · by_cases hd2 : c.r ≤ 48
      · have HD := Lib.hid ((inB_iff 0 48 c.r).2 ⟨hd, hd2⟩)
        by_cases hf : 0 ≤ c.f
        · by_cases hf2 : c.f ≤ 20
          · have HF := Lib.hid ((inB_iff 0 20 c.f).2 ⟨hf, hf2⟩)
            go_wp2_with fail
            go_ret
            exact ⟨ret_bool (by rw [HR.out, hp, HD.out, HF.out]; first | rfl | (simp; omega)), HW.out⟩
          · have HF := Lib.hid (inB_no (lo := 0) (hi := 20) (x := c.f) (by omega))
            go_wp2_with fail
            go_ret
            exact ⟨ret_bool (by rw [HR.out, hp, HD.out, HF.out]; first | rfl | (simp; omega)), HW.out⟩
        · have HF := Lib.hid (inB_no (lo := 0) (hi := 20) (x := c.f) (by omega))
          go_wp2_with fail
          go_ret
          exact ⟨ret_bool (by rw [HR.out, hp, HD.out, HF.out]; first | rfl | (simp; omega)), HW.out⟩
      · have HD := Lib.hid (inB_no (lo := 0) (hi := 48) (x := c.r) (by omega))
        go_wp2_with fail
        go_ret
        exact ⟨ret_bool (by rw [HR.out, hp, HD.out]; rfl), HW.out⟩
    · have HD := Lib.hid (inB_no (lo := 0) (hi := 48) (x := c.r) (by omega))
      go_wp2_with fail
      go_ret
      exact ⟨ret_bool (by rw [HR.out, hp, HD.out]; rfl), HW.out⟩
theorem isLine_any (n : Int) (g : Bool) (w : World) :
    Calls Try.prog 107 #[rd n g] w fun e w' => e = .returned (.bool (straightB n g)) ∧ Below w.heap.size w w' := by
  have HRO := Lib.hid (fun w => isRoad_any n g w)
  have HX := Lib.hid (Boxed.first w n g 27)
  unfold rd at *
  go_enter Try.func107, Try.ntmps107
  go_wp2_with fail
  refine (HRO.out _).mono ?_
  rintro e w1 ⟨rfl, hb⟩
  have HX := Lib.hid (HX.out.next hb)
  have h1 := HX.out.c1
  clear hb
  cases hr : roadB n g
  · go_wp2_with fail
    go_ret
    exact ⟨ret_bool (by simp [straightB, hr]), HX.out.below⟩
  · cases g
    all_goals
      go_wp2_with fail
      go_ret
      exact ⟨ret_bool (by simp [straightB, hr]), HX.out.below⟩
def AcRel (n : Int) (g : Bool) (ks : List Cr) (base : Nat) (w : World) (r i : Value) (wr : World) : Prop :=
  r = .bool false ∧ Boxed base n g w wr ∧ ∃ k : Nat, k ≤ ks.length ∧ i = .int .i64 k ∧ ∀ (j : Nat) x, j < k → ks[j]? = some x → onB n g x = true
set_option maxHeartbeats 800000 in
set_option maxRecDepth 20000 in
theorem areCarriers_any (n : Int) (g : Bool) (v : Value) (ks : List Cr) (w : World) (hv : ReadsC w v ks) :
    Calls Try.prog 93 #[rd n g, v] w fun e w' => e = .returned (.bool (csB n g ks)) ∧ Below w.heap.size w w' := by
  have HRO := Lib.hid (fun w => isLine_any n g w)
  have HON := Lib.hid (fun c w => onC_any n g c w)
  have HX := Lib.hid (Boxed.first w n g 27)
  obtain ⟨y, c, rfl, hc, hm, hx⟩ := hv
  unfold maxLen at hm
  have HL := Lib.hid hx
  clear hx
  unfold crv rd at *
  by_cases hl6 : (ks.length : Int) ≤ 6
  · have hgt : ¬ 6 < (ks.length : Int) := by omega
    go_enter Try.func93, Try.ntmps93
    go_wp2_with fail
    go_loopw [4, 12] (fun r i wr => AcRel n g ks w.heap.size w r i wr) (fun _ i _ => ks.length - (intOf i).toNat)
    case atStart => exact ⟨rfl, HX.out, 0, Nat.zero_le _, rfl, fun j x hj => by omega⟩
    case round =>
      obtain ⟨rfl, hx, k, hk, rfl, hpre⟩ := hrel
      clear HX
      have HX := Lib.hid hx
      have HP := Lib.hid hpre
      clear hx hpre
      have hb0 := HX.out.c0
      have hb1 := HX.out.c1
      by_cases hlt : k < ks.length
      · obtain ⟨x, hxk⟩ := get_cr hlt
        obtain ⟨b, o, rfl, hbl, h0, h1, h2⟩ := HL.out k x hxk
        have HK := Lib.hid hxk
        have HX2 := Lib.hid (HX.out.next (below_new _ (.cells #[.int .i64 x.s, .int .i64 x.r, .int .i64 x.f] 60)))
        have h0 := (HX.out.below.cell (p := ⟨b, _, none⟩) hbl).trans h0
        have h1 := (HX.out.below.cell (p := ⟨b, _, none⟩) hbl).trans h1
        have h2 := (HX.out.below.cell (p := ⟨b, _, none⟩) hbl).trans h2
        clear hxk
        have hsz := HX.out.size
        have ha0 := HX2.out.c0
        have ha1 := HX2.out.c1
        go_wp2_with fail
        refine (HON.out x _).mono ?_
        rintro e w2 ⟨rfl, hb⟩
        have HX := Lib.hid (HX2.out.next hb)
        clear hb hb0 hb1 h0 h1 h2 ha0 ha1 hsz
        cases hw : onB n g x
        · have HF := Lib.hid (csB_bad HK.out hw)
          go_wp2_with fail
          go_ret
          exact ⟨ret_bool HF.out.symm, HX.out.below⟩
        · have HW := Lib.hid hw
          clear hw
          go_wp2_with fail
          go_roundw
          case rel =>
            refine ⟨rfl, HX.out, k + 1, by omega, by go_num, fun j z hj hz => ?_⟩
            by_cases e : j = k
            · subst e
              rw [HK.out] at hz
              cases hz
              exact HW.out
            · exact HP.out j z (by omega) hz
          case measure => simp [intOf]; omega
      · have HF := Lib.hid (show straightB n g = csB n g ks by
          rw [Bool.eq_iff_iff, csB_iff]
          exact ⟨fun h => ⟨h, by omega, fun j x hx => HP.out j x (by have := (List.getElem?_eq_some_iff.1 hx).1; omega) hx⟩, fun h => h.1⟩)
        go_wp2_with fail
        refine (HRO.out _).mono ?_
        rintro e w2 ⟨rfl, hb⟩
        have HX := Lib.hid (HX.out.next hb)
        clear hb hb0 hb1
        go_wp2_with fail
        go_ret
        exact ⟨ret_bool HF.out, HX.out.below⟩
  · have hgt : 6 < (ks.length : Int) := by omega
    have HF := Lib.hid (csB_no (n := n) (g := g) (cs := ks) (fun h => by omega))
    go_enter Try.func93, Try.ntmps93
    go_wp2_with fail
    go_ret
    exact ⟨ret_bool HF.out.symm, HX.out.below⟩
end Go.Proofs.Ytekahkeddpngpaa
