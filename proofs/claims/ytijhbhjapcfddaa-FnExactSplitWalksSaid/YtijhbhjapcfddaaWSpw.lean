/-
  What is proved: the walk of the law FnExactSplitWalks: for every input impl.SplitWalks answers as the model does, its arguments read as before, and its answer is memory of its own. Conditions: none beyond the row's own.
-/
import Derived.Test.YtijhbhjapcfddaaExm
import Derived.Test.YtijhbhjapcfddaaTbb
namespace Go.Proofs.Ytijhbhjapcfddaa.fnExactSplitWalks
open Go.RowKit
set_option linter.unusedVariables false
set_option linter.unusedSimpArgs false

set_option maxHeartbeats 3200000 in
set_option maxRecDepth 20000 in
theorem law_two (n : Int) (g : Bool) (a1 : Int) (zss : List (List Int)) (b : Bool) (hz : sizeT zss ≤ 1048576) (w : World) 
    (hm : ∀  (w : World), Calls Try.prog 50 #[rd n g, .int .i64 a1] w (OwnsTB w.heap.size zss b w))
    (hi : ∀  (w : World), Calls Try.prog 51 #[rd n g, .int .i64 a1] w (OwnsTB w.heap.size zss b w)) :
    Calls Try.prog 14 #[rd n g, .int .i64 a1] w fun e w' => e = .returned (.bool true) ∧ Below w.heap.size w w' := by
  have HM := Lib.hid hm
  have HI := Lib.hid hi
  have HT := Lib.hid (fun w => toRoad_any n g w)
  have hnm : zss.length ≤ maxLen := by unfold maxLen; unfold sizeT at hz; omega
  have Hnzss := Lib.hid hnm
  have Hbzss := Lib.hid hz
  clear hnm hz
  clear hm hi
  have HX := Lib.hid (Boxed.first w n g 23)
  unfold rd at *
  go_enter Try.func14, Try.ntmps14
  go_wp2_with fail
  have HZw1 : Hid (w.heap.size + 1 ≤ (w.alloc (.cells #[.int .i64 n, .bool g] 23)).heap.size) := Lib.hid (by simp)
  generalize (w.alloc (.cells #[.int .i64 n, .bool g] 23)) = w1 at *
  have hb0 := HX.out.c0
  have hb1 := HX.out.c1
  refine (HT.out _).mono ?_
  rintro e w2 ⟨rfl, hb⟩
  clear hb0 hb1
  have HX := Lib.hid (HX.out.next hb)
  have HZw2 : Hid (w1.heap.size ≤ w2.heap.size) := Lib.hid (hb.size)
  clear hb
  have hb0 := HX.out.c0
  have hb1 := HX.out.c1
  go_wp2_with fail
  refine (HM.out _).mono ?_
  rintro e w3 ⟨g1, ug1, rfl, ho, hb⟩
  clear hb0 hb1
  have HX := Lib.hid (HX.out.next hb)
  have HZw3 : Hid (w2.heap.size ≤ w3.heap.size) := Lib.hid (hb.size)
  have HOg1 := Lib.hid ho
  clear ho
  clear hb
  have HMid : Hid (Below w3.heap.size w3 w3) := Lib.hid (Below.refl _ _)
  have HXm := Lib.hid HX.out.size
  have hb0 := HX.out.c0
  have hb1 := HX.out.c1
  go_wp2_with fail
  refine (HT.out _).mono ?_
  rintro e w4 ⟨rfl, hb⟩
  clear hb0 hb1
  have HX := Lib.hid (HX.out.next hb)
  have HOg1 := Lib.hid (HOg1.out.below hb)
  have HMid := Lib.hid (HMid.out.trans (hb.mono HMid.out.size))
  have HZw4 : Hid (w3.heap.size ≤ w4.heap.size) := Lib.hid (hb.size)
  clear hb
  have hb0 := HX.out.c0
  have hb1 := HX.out.c1
  go_wp2_with fail
  refine (HI.out _).mono ?_
  rintro e w5 ⟨g2, ug2, rfl, ho, hb⟩
  clear hb0 hb1
  have HX := Lib.hid (HX.out.next hb)
  have HOg1 := Lib.hid (HOg1.out.below hb)
  have HMid := Lib.hid (HMid.out.trans (hb.mono HMid.out.size))
  have HZw5 : Hid (w4.heap.size ≤ w5.heap.size) := Lib.hid (hb.size)
  have HOg2 := Lib.hid ho
  clear ho
  clear hb
  cases b
  all_goals
    have hb0 := HX.out.c0
    have hb1 := HX.out.c1
    go_wp2_with fail
    refine (eqT_yes g2 g1 zss _ (HOg2.out.reads Hnzss.out) (HOg1.out.reads Hnzss.out)).mono ?_
    rintro e w6 ⟨rfl, hb⟩
    clear hb0 hb1
    have HX := Lib.hid (HX.out.next hb)
    have HOg1 := Lib.hid (HOg1.out.below hb)
    have HOg2 := Lib.hid (HOg2.out.below hb)
    have HMid := Lib.hid (HMid.out.trans (hb.mono HMid.out.size))
    have HZw6 : Hid (w5.heap.size ≤ w6.heap.size) := Lib.hid (hb.size)
    clear hb
    have hb0 := HX.out.c0
    have hb1 := HX.out.c1
    go_wp2_with fail
    refine (markT_any g2 ug2 zss (w4.heap.size) (w5.heap.size) (1) _ HOg2.out Hbzss.out (by have hlezss := Hbzss.out; unfold sizeT at *; omega)).mono ?_
    rintro e w7 ⟨rfl, hch, ho⟩
    clear hb0 hb1
    have hbM : Below w3.heap.size w6 w7 := hch.below (by have z0 := HZw1.out; have z1 := HZw2.out; have z2 := HZw3.out; have z3 := HZw4.out; have z4 := HZw5.out; have z5 := HZw6.out; omega) HMid.out.size
    have HX := Lib.hid (HX.out.nextAt HXm.out hbM)
    have HMid := Lib.hid (HMid.out.trans hbM)
    have HOg1 := Lib.hid (HOg1.out.chg hch (by have z0 := HZw1.out; have z1 := HZw2.out; have z2 := HZw3.out; have z3 := HZw4.out; have z4 := HZw5.out; have z5 := HZw6.out; omega))
    have HOg2 := Lib.hid ho
    have HZw7 : Hid (w6.heap.size ≤ w7.heap.size) := Lib.hid hch.size
    clear hch ho hbM
    have hb0 := HX.out.c0
    have hb1 := HX.out.c1
    go_wp2_with fail
    refine (heldT_any g2 zss (1) _ (HOg2.out.reads (by rw [mkT_len]; exact Hnzss.out)) Hbzss.out (by have hlezss := Hbzss.out; unfold sizeT at *; omega)).mono ?_
    rintro e w8 ⟨rfl, rfl⟩
    go_wp2_with fail
    refine (HT.out _).mono ?_
    rintro e w8 ⟨rfl, hb⟩
    clear hb0 hb1
    have HX := Lib.hid (HX.out.next hb)
    have HOg1 := Lib.hid (HOg1.out.below hb)
    have HOg2 := Lib.hid (HOg2.out.below hb)
    have HMid := Lib.hid (HMid.out.trans (hb.mono HMid.out.size))
    have HZw8 : Hid (w7.heap.size ≤ w8.heap.size) := Lib.hid (hb.size)
    clear hb
    have hb0 := HX.out.c0
    have hb1 := HX.out.c1
    go_wp2_with fail
    refine (HI.out _).mono ?_
    rintro e w9 ⟨g3, ug3, rfl, ho, hb⟩
    clear hb0 hb1
    have HX := Lib.hid (HX.out.next hb)
    have HOg1 := Lib.hid (HOg1.out.below hb)
    have HOg2 := Lib.hid (HOg2.out.below hb)
    have HMid := Lib.hid (HMid.out.trans (hb.mono HMid.out.size))
    have HZw9 : Hid (w8.heap.size ≤ w9.heap.size) := Lib.hid (hb.size)
    have HOg3 := Lib.hid ho
    clear ho
    clear hb
    have hb0 := HX.out.c0
    have hb1 := HX.out.c1
    go_wp2_with fail
    refine (eqT_yes g3 g1 zss _ (HOg3.out.reads Hnzss.out) (HOg1.out.reads Hnzss.out)).mono ?_
    rintro e w10 ⟨rfl, hb⟩
    clear hb0 hb1
    have HX := Lib.hid (HX.out.next hb)
    have HOg1 := Lib.hid (HOg1.out.below hb)
    have HOg2 := Lib.hid (HOg2.out.below hb)
    have HOg3 := Lib.hid (HOg3.out.below hb)
    have HMid := Lib.hid (HMid.out.trans (hb.mono HMid.out.size))
    have HZw10 : Hid (w9.heap.size ≤ w10.heap.size) := Lib.hid (hb.size)
    clear hb
    have hb0 := HX.out.c0
    have hb1 := HX.out.c1
    go_wp2_with fail
    refine (heldT_any g2 zss (1) _ (HOg2.out.reads (by rw [mkT_len]; exact Hnzss.out)) Hbzss.out (by have hlezss := Hbzss.out; unfold sizeT at *; omega)).mono ?_
    rintro e w11 ⟨rfl, rfl⟩
    go_wp2_with fail
    go_ret
    exact ⟨rfl, HX.out.below⟩

theorem walk (n : Int) (g : Bool) (a1 : Int) (w : World) (ha1 : -9223372036854775808 ≤ a1 ∧ a1 ≤ 9223372036854775807) :
    Calls Try.prog 14 #[rd n g, .int .i64 a1] w fun e w' => e = .returned (.bool true) ∧ Below w.heap.size w w' := by
  · skip
    have hlen : sizeT ((splitR n g a1)).1 ≤ 1048576 := splitR_size n g a1
    exact law_two n g a1 ((splitR n g a1)).1 ((splitR n g a1)).2 hlen w  (fun  w  => spec_SplitWalks n g a1 w ) (fun  w  => impl_SplitWalks n g a1 w )
end Go.Proofs.Ytijhbhjapcfddaa.fnExactSplitWalks
