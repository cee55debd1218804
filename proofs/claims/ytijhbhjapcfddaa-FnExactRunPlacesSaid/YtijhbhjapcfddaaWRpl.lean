/-
  What is proved: the walk of the law FnExactRunPlaces: for every input impl.RunPlaces answers as the model does, its arguments read as before, and its answer is memory of its own. Conditions: none beyond the row's own.
-/
import Derived.Test.YtijhbhjapcfddaaExb
import Derived.Test.YtijhbhjapcfddaaTbb
namespace Go.Proofs.Ytijhbhjapcfddaa.fnExactRunPlaces
open Go.RowKit
set_option linter.unusedVariables false
set_option linter.unusedSimpArgs false

set_option maxHeartbeats 3200000 in
set_option maxRecDepth 20000 in
theorem law_two (n : Int) (g : Bool) (a1 : Int) (a2 : Int) (zs : List Int) (b : Bool) (hz : zs.length ≤ 1048576) (w : World) 
    (hm : ∀  (w : World), Calls Try.prog 24 #[rd n g, .int .i64 a1, .int .i64 a2] w (OwnsB w.heap.size zs b w))
    (hi : ∀  (w : World), Calls Try.prog 25 #[rd n g, .int .i64 a1, .int .i64 a2] w (OwnsB w.heap.size zs b w)) :
    Calls Try.prog 4 #[rd n g, .int .i64 a1, .int .i64 a2] w fun e w' => e = .returned (.bool true) ∧ Below w.heap.size w w' := by
  have HM := Lib.hid hm
  have HI := Lib.hid hi
  have HT := Lib.hid (fun w => toRoad_any n g w)
  have hnm : zs.length ≤ maxLen := by unfold maxLen; omega
  have Hnzs := Lib.hid hnm
  have Hbzs := Lib.hid hz
  clear hnm
  clear hm hi
  have HX := Lib.hid (Boxed.first w n g 23)
  unfold rd at *
  go_enter Try.func4, Try.ntmps4
  go_wp2_with fail
  have HZw1 : Hid (w.heap.size + 1 ≤ (w.alloc (.cells #[.int .i64 n, .bool g] 23)).heap.size) := Lib.hid (by simp)
  generalize (w.alloc (.cells #[.int .i64 n, .bool g] 23)) = w1 at *
  have hb0 := HX.out.c0
  have hb1 := HX.out.c1
  refine (HT.out _).mono ?_
  rintro e w2 ⟨rfl, hb⟩
  clear hb0 hb1
  have HX := Lib.hid (HX.out.next hb)
  have HZw2 : Hid (w1.heap.size ≤ w2.heap.size) := Lib.hid (hb.size)
  clear hb
  have hb0 := HX.out.c0
  have hb1 := HX.out.c1
  go_wp2_with fail
  refine (HM.out _).mono ?_
  rintro e w3 ⟨g1, rfl, ho, hb⟩
  clear hb0 hb1
  have HX := Lib.hid (HX.out.next hb)
  have HZw3 : Hid (w2.heap.size ≤ w3.heap.size) := Lib.hid (hb.size)
  have HRg1 : Hid (∀ b, g1.ownBlock = some b → w2.heap.size ≤ b ∧ b < w3.heap.size) := Lib.hid (fun b hb => owns_block ho b hb)
  have HOg1 := Lib.hid ho
  clear ho
  clear hb
  have HMid : Hid (Below w3.heap.size w3 w3) := Lib.hid (Below.refl _ _)
  have HXm := Lib.hid HX.out.size
  have hb0 := HX.out.c0
  have hb1 := HX.out.c1
  go_wp2_with fail
  refine (HT.out _).mono ?_
  rintro e w4 ⟨rfl, hb⟩
  clear hb0 hb1
  have HX := Lib.hid (HX.out.next hb)
  have HOg1 := Lib.hid (owns_below HOg1.out hb)
  have HMid := Lib.hid (HMid.out.trans (hb.mono HMid.out.size))
  have HZw4 : Hid (w3.heap.size ≤ w4.heap.size) := Lib.hid (hb.size)
  clear hb
  have hb0 := HX.out.c0
  have hb1 := HX.out.c1
  go_wp2_with fail
  refine (HI.out _).mono ?_
  rintro e w5 ⟨g2, rfl, ho, hb⟩
  clear hb0 hb1
  have HX := Lib.hid (HX.out.next hb)
  have HOg1 := Lib.hid (owns_below HOg1.out hb)
  have HMid := Lib.hid (HMid.out.trans (hb.mono HMid.out.size))
  have HZw5 : Hid (w4.heap.size ≤ w5.heap.size) := Lib.hid (hb.size)
  have HRg2 : Hid (∀ b, g2.ownBlock = some b → w4.heap.size ≤ b ∧ b < w5.heap.size) := Lib.hid (fun b hb => owns_block ho b hb)
  have HOg2 := Lib.hid ho
  clear ho
  clear hb
  cases b
  all_goals
    have hb0 := HX.out.c0
    have hb1 := HX.out.c1
    go_wp2_with fail
    refine (eqI_below g2 g1 zs _ (owns_reads HOg2.out Hnzs.out) (owns_reads HOg1.out Hnzs.out)).mono ?_
    rintro e w6 ⟨rfl, hb⟩
    clear hb0 hb1
    have HX := Lib.hid (HX.out.next hb)
    have HOg1 := Lib.hid (owns_below HOg1.out hb)
    have HOg2 := Lib.hid (owns_below HOg2.out hb)
    have HMid := Lib.hid (HMid.out.trans (hb.mono HMid.out.size))
    have HZw6 : Hid (w5.heap.size ≤ w6.heap.size) := Lib.hid (hb.size)
    clear hb
    have hb0 := HX.out.c0
    have hb1 := HX.out.c1
    go_wp2_with fail
    refine (mark_list g2 zs _ (1) _ HOg2.out (Hbzs.out) (by omega)).mono ?_
    rintro e w7 ⟨rfl, hg, ho⟩
    clear hb0 hb1
    have hch : ChgIn (w4.heap.size) (w5.heap.size) w6 w7 := ChgIn.of_grown hg HRg2.out
    have hbM : Below w3.heap.size w6 w7 := hch.below (by have z0 := HZw1.out; have z1 := HZw2.out; have z2 := HZw3.out; have z3 := HZw4.out; have z4 := HZw5.out; have z5 := HZw6.out; omega) HMid.out.size
    have HX := Lib.hid (HX.out.nextAt HXm.out hbM)
    have HMid := Lib.hid (HMid.out.trans hbM)
    have HOg1 := Lib.hid (row_chg HOg1.out hch (fun b h => by have l := HRg1.out b h; have z0 := HZw1.out; have z1 := HZw2.out; have z2 := HZw3.out; have z3 := HZw4.out; have z4 := HZw5.out; have z5 := HZw6.out; omega))
    have HOg2 := Lib.hid ho
    have HZw7 : Hid (w6.heap.size ≤ w7.heap.size) := Lib.hid hch.size
    clear hch ho hbM hg
    have hb0 := HX.out.c0
    have hb1 := HX.out.c1
    go_wp2_with fail
    refine (held_any g2 zs.length (1) _ (owns_reads (by rw [mts_len]; exact HOg2.out) (by rw [mts_len]; exact Hnzs.out)) (Hbzs.out) (by omega)).mono ?_
    rintro e w8 ⟨rfl, rfl⟩
    go_wp2_with fail
    refine (HT.out _).mono ?_
    rintro e w8 ⟨rfl, hb⟩
    clear hb0 hb1
    have HX := Lib.hid (HX.out.next hb)
    have HOg1 := Lib.hid (owns_below HOg1.out hb)
    have HOg2 := Lib.hid (owns_below HOg2.out hb)
    have HMid := Lib.hid (HMid.out.trans (hb.mono HMid.out.size))
    have HZw8 : Hid (w7.heap.size ≤ w8.heap.size) := Lib.hid (hb.size)
    clear hb
    have hb0 := HX.out.c0
    have hb1 := HX.out.c1
    go_wp2_with fail
    refine (HI.out _).mono ?_
    rintro e w9 ⟨g3, rfl, ho, hb⟩
    clear hb0 hb1
    have HX := Lib.hid (HX.out.next hb)
    have HOg1 := Lib.hid (owns_below HOg1.out hb)
    have HOg2 := Lib.hid (owns_below HOg2.out hb)
    have HMid := Lib.hid (HMid.out.trans (hb.mono HMid.out.size))
    have HZw9 : Hid (w8.heap.size ≤ w9.heap.size) := Lib.hid (hb.size)
    have HRg3 : Hid (∀ b, g3.ownBlock = some b → w8.heap.size ≤ b ∧ b < w9.heap.size) := Lib.hid (fun b hb => owns_block ho b hb)
    have HOg3 := Lib.hid ho
    clear ho
    clear hb
    have hb0 := HX.out.c0
    have hb1 := HX.out.c1
    go_wp2_with fail
    refine (eqI_below g3 g1 zs _ (owns_reads HOg3.out Hnzs.out) (owns_reads HOg1.out Hnzs.out)).mono ?_
    rintro e w10 ⟨rfl, hb⟩
    clear hb0 hb1
    have HX := Lib.hid (HX.out.next hb)
    have HOg1 := Lib.hid (owns_below HOg1.out hb)
    have HOg2 := Lib.hid (owns_below HOg2.out hb)
    have HOg3 := Lib.hid (owns_below HOg3.out hb)
    have HMid := Lib.hid (HMid.out.trans (hb.mono HMid.out.size))
    have HZw10 : Hid (w9.heap.size ≤ w10.heap.size) := Lib.hid (hb.size)
    clear hb
    have hb0 := HX.out.c0
    have hb1 := HX.out.c1
    go_wp2_with fail
    refine (held_any g2 zs.length (1) _ (owns_reads (by rw [mts_len]; exact HOg2.out) (by rw [mts_len]; exact Hnzs.out)) (Hbzs.out) (by omega)).mono ?_
    rintro e w11 ⟨rfl, rfl⟩
    go_wp2_with fail
    go_ret
    exact ⟨rfl, HX.out.below⟩

theorem walk (n : Int) (g : Bool) (a1 : Int) (a2 : Int) (w : World) (ha1 : -9223372036854775808 ≤ a1 ∧ a1 ≤ 9223372036854775807) (ha2 : -9223372036854775808 ≤ a2 ∧ a2 ≤ 9223372036854775807) :
    Calls Try.prog 4 #[rd n g, .int .i64 a1, .int .i64 a2] w fun e w' => e = .returned (.bool true) ∧ Below w.heap.size w w' := by
  · skip
    have hlen : ((runsR n g a1 a2)).1.length ≤ 1048576 := runsR_len n g a1 a2
    exact law_two n g a1 a2 ((runsR n g a1 a2)).1 ((runsR n g a1 a2)).2 hlen w  (fun  w  => spec_RunPlaces n g a1 a2 w ) (fun  w  => impl_RunPlaces n g a1 a2 w )
end Go.Proofs.Ytijhbhjapcfddaa.fnExactRunPlaces
