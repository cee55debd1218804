/-
  What is proved: SearchWalk of the program. Conditions: slices that read as lists of numbers of the row's length.
-/
import Derived.Test.YtnclfdfnhhicdaaSex
import Derived.Test.YtnclfdfnhhicdaaFn21
namespace Go.Proofs.Ytnclfdfnhhicdaa
open Go.RowKit
set_option linter.unusedVariables false
set_option linter.unusedSimpArgs false

theorem made_oneS (w : World) (base : Nat) (a : Int) (hb : base ≤ w.heap.size) : (w.alloc (.cells #[.int .i64 a] 3)).ownsRow base 3 1 (.slice (some ⟨w.heap.size, 0, none⟩) 1 1) 1 [.int .i64 a] :=
  ⟨rfl, Or.inr ⟨w.heap.size, 1, #[.int .i64 a], rfl, hb, heap_alloc_new w _, Nat.le_refl _, by decide, rfl, rfl⟩⟩
def SwR (n a : Int) (xs : List Int) (base wb : Nat) (ls : Value) (w : World) (vv bv i : Value) (wr : World) : Prop :=
  Boxed base n false w wr ∧ OwnL wb ls (legsL n a xs xs.length) wr ∧ bv = .bool true ∧ ∃ k : Nat, k ≤ xs.length ∧ i = .int .i64 k ∧ Walk n false (walkS a xs k) ∧ wr.ownsRow (base + 1) 3 1 vv (walkS a xs k).length ((walkS a xs k).map iv)
set_option maxHeartbeats 3200000 in
set_option maxRecDepth 20000 in
theorem impl_SearchWalk (n : Int) (g : Bool) (a : Int) (v : Value) (xs : List Int) (w : World) (hv : ReadsI w v xs) (hlen : xs.length ≤ 1048576) :
    Calls Try.prog 34 #[rd n g, .int .i64 a, v] w (OwnsB w.heap.size (swalkR n g a xs).1 (swalkR n g a xs).2 w) := by
  have HCS := Lib.hid (fun v w hv => canSearch_any n g a 0 v xs w hv)
  have HLE := Lib.hid (fun v w hv hl hin => legs_any n a 0 v xs w hv hl hin hlen)
  have HJW := Lib.hid (fun v ys u zs w hv hu => impl_JoinWalks n false v ys u zs w hv hu)
  have HX := Lib.hid ((Boxed.first w n g 27).next (below_new _ (.cells #[.int .i64 n, .bool g, .int .i64 a, .int .i64 0] 60)))
  have HB := Lib.hid (blk_at (w.alloc (.cells #[.int .i64 n, .bool g] 27)) #[.int .i64 n, .bool g, .int .i64 a, .int .i64 0] 60 (w.heap.size + 1) (by simp))
  have HV := Lib.hid ((hv.below (below_new w (.cells #[.int .i64 n, .bool g] 27))).below (below_new _ (.cells #[.int .i64 n, .bool g, .int .i64 a, .int .i64 0] 60)))
  obtain ⟨y, c, rfl, hc, hm, _⟩ := hv
  unfold maxLen at hm
  unfold sr rd at *
  go_enter Try.func34, Try.ntmps34
  go_wp2_with fail
  refine (HCS.out _ _ HV.out).mono ?_
  rintro e w1 ⟨rfl, hb⟩
  have hcb : canB n g a 0 xs = (lineB n g a && searchB n a xs) := by simp [canB, validB]
  rw [hcb]
  have HX1 := Lib.hid (HX.out.next hb)
  have HB1 := Lib.hid (HB.out.below hb)
  have HV2 := Lib.hid (HV.out.below hb)
  clear hb HV HX HB hcb
  have hsz := HX1.out.size
  have HMD := Lib.hid (fun (w2 : World) (h : w.heap.size + 1 ≤ w2.heap.size) => made_at w2 (w.heap.size + 1) w2.heap.size rfl h)
  cases hg : (lineB n g a && searchB n a xs)
  · have HR := Lib.hid (swalkR_no hg)
    go_wp2_with fail
    go_ret2
    exact owns_R (zs := []) (b := false) HR.out (owns_out (HX1.out.next (below_new _ _)) (HMD.out _ (Nat.succ_le_of_lt hsz)))
  · have hgp := hg
    rw [Bool.and_eq_true] at hgp
    obtain ⟨hl, hs⟩ := hgp
    obtain ⟨hn1, hn2, hgf, ha0, ha1⟩ := (lineB_iff n g a).1 hl
    subst hgf
    have hin := inside_search hs
    have HIN := Lib.hid hin
    have HPI := Lib.hid (plc_in (n := n) (a := a) (xs := xs) ⟨ha0, ha1⟩ hin)
    have HL2 := Lib.hid (fun w hv => HLE.out (.slice y xs.length c) w hv hl hin)
    have HYES := Lib.hid (fun h => swalkR_yes (n := n) (g := false) (a := a) (xs := xs) hg h)
    have HOW0 := Lib.hid (one_walk (n := n) (a := a) ⟨hn1, hn2⟩ ⟨ha0, ha1⟩)
    clear hg hl hs hin
    have HX2 := Lib.hid (HX1.out.next (below_new _ (.cells #[.int .i64 a] 3)))
    have HB2 := Lib.hid (HB1.out.below (below_new _ (.cells #[.int .i64 a] 3)))
    have HV3 := Lib.hid (HV2.out.below (below_new _ (.cells #[.int .i64 a] 3)))
    have HO2 := Lib.hid (made_oneS w1 (w.heap.size + 1) a (Nat.succ_le_of_lt hsz))
    have h0 := HB2.out.cell 0
    have h1 := HB2.out.cell 1
    have h2 := HB2.out.cell 2
    have h3 := HB2.out.cell 3
    go_wp2_with fail
    refine (HL2.out _ HV3.out).mono ?_
    rintro e w2 ⟨ls, rfl, hls, hb⟩
    have HX3 := Lib.hid (HX2.out.next hb)
    have HO3 := Lib.hid (owns_below HO2.out hb)
    have HLS := Lib.hid hls
    clear hb hls h0 h1 h2 h3 HL2 HV3 HV2
    generalize (w1.alloc (.cells #[.int .i64 a] 3)).heap.size = wb at *
    have hll := legsL_len n a xs xs.length
    obtain ⟨la, lc, hsh⟩ := ownL_shape HLS.out
    rw [hll] at hsh
    subst hsh
    clear hll
    go_wp2_with fail
    go_loopw [9, 10, 27] (fun vv bv i wr => SwR n a xs w.heap.size wb (.slice la xs.length lc) w vv bv i wr) (fun _ _ i _ => xs.length - (intOf i).toNat)
    case atStart => exact ⟨HX3.out, HLS.out, rfl, 0, Nat.zero_le _, rfl, HOW0.out, HO3.out⟩
    case round =>
      obtain ⟨hx, hls, rfl, k, hk, rfl, hwk, hown⟩ := hrel
      clear HX3 HO3 HLS
      have HX := Lib.hid hx
      have HLS := Lib.hid hls
      have HWK := Lib.hid hwk
      have HOW := Lib.hid hown
      have hw61 := hwk.2.2.1
      have hsz := HX.out.size
      clear hx hls hwk
      obtain ⟨va, vc, hvs, _⟩ := owns_shape hown
      subst hvs
      clear hown
      by_cases hlt : k < xs.length
      · obtain ⟨z, hzk⟩ := get_some hlt
        have hqi := HPI.out k hk
        have hzi := HIN.out k z hzk
        obtain ⟨q, hq⟩ : ∃ q, plc a xs k = q := ⟨_, rfl⟩
        rw [hq] at hqi
        have hjn := walkS_join ⟨hn1, hn2⟩ hq hzk hqi hzi HWK.out
        have hli := legsL_at n a xs xs.length k hlt
        rw [plc_next hzk, hq] at hli
        have hLn := leg_len (n := n) (q := q) (z := z) hqi hzi
        obtain ⟨lg, lu, hla, hlg, hlc, hrd⟩ := ownL_at HLS.out hli
        subst hla
        obtain ⟨ug, uc, huu⟩ := rdT_shape hrd (by intro e; rw [e] at hLn; simp at hLn; unfold gap1 at hLn; omega)
        have hlw := leg_walk ⟨hn1, hn2⟩ hqi hzi
        have hls60 := hlw.2.2.1
        have hjy : (walkS a xs (k + 1)).length ≤ 61 → joinR n false (walkS a xs k) (straightL n false q z) = (walkS a xs (k + 1), true) := fun h => by
          rw [joinR_yes ⟨HWK.out, hlw, hjn.2.1, by rw [hjn.2.2.1]; exact h⟩, hjn.1]
        have hjno : ¬ (walkS a xs (k + 1)).length ≤ 61 → joinR n false (walkS a xs k) (straightL n false q z) = ([], false) := fun h => joinR_no (fun hh => h (by rw [← hjn.2.2.1]; exact hh.2.2.2))
        have HRV := Lib.hid (owns_reads HOW.out (by unfold maxLen; omega))
        have HRU := Lib.hid hrd.reads
        have HJ := Lib.hid (fun v u w hv hu => HJW.out v (walkS a xs k) u (straightL n false q z) w hv hu)
        have HWN := Lib.hid hjn.2.2.2
        have hmo := walkS_mono a xs (k + 1) xs.length (by omega)
        have HMO := Lib.hid hmo
        clear hjn hli hlw hrd hmo hq hzk hLn
        generalize (straightL n false q z).length = L at *
        subst huu
        have h0 := HX.out.c0
        have h1 := HX.out.c1
        by_cases hfit : (walkS a xs (k + 1)).length ≤ 61
        · have hj := hjy hfit
          rw [hj] at HJ
          have HWN2 := Lib.hid (HWN.out.2 hfit)
          clear hj hjy hjno
          go_wp2_with fail
          refine (HJ.out _ _ _ HRV.out HRU.out).mono ?_
          rintro e w3 ⟨u3, rfl, ho, hb⟩
          have HX4 := Lib.hid (HX.out.next hb)
          have HO4 := Lib.hid (owns_lower ho (Nat.succ_le_of_lt hsz))
          have HL4 := Lib.hid (ownL_below HLS.out hb)
          clear ho hb h0 h1
          go_wp2_with fail
          go_roundw
          case rel => exact ⟨HX4.out, HL4.out, rfl, k + 1, by omega, by go_num, HWN2.out, HO4.out⟩
          case measure => simp [intOf]; omega
        · have hj := hjno hfit
          rw [hj] at HJ
          have HR := Lib.hid (swalkR_long (n := n) (g := false) (a := a) (xs := xs) (by have := HMO.out; omega))
          clear hj hjy hjno
          go_wp2_with fail
          refine (HJ.out _ _ _ HRV.out HRU.out).mono ?_
          rintro e w3 ⟨u3, rfl, ho, hb⟩
          have HX4 := Lib.hid (HX.out.next hb)
          have HO4 := Lib.hid (owns_lower ho (Nat.succ_le_of_lt hsz))
          clear ho hb h0 h1
          go_wp2_with fail
          go_ret2
          exact owns_R (zs := []) (b := false) HR.out (owns_out HX4.out HO4.out)
      · have hke : k = xs.length := by omega
        subst hke
        have HR := Lib.hid (HYES.out hw61)
        go_wp2_with fail
        go_ret2
        exact owns_R (zs := walkS a xs xs.length) (b := true) HR.out (owns_out HX.out HOW.out)
end Go.Proofs.Ytnclfdfnhhicdaa
