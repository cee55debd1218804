/-
  What is proved: the contracts of spec.l3Gcd, impl.reduced and a searcher's ratio; SearchRatio of the model and of the program; laws.eqIntA2. Conditions: slices that read as lists of numbers of the row's length.
-/
import Derived.Test.YtnclfdfnhhicdaaSeo
import Derived.RegionTactic
import Derived.ChangeAlike
namespace Go.Proofs.Ytnclfdfnhhicdaa
open Go.RowKit
set_option linter.unusedVariables false
set_option linter.unusedSimpArgs false

def GcR (m : Nat) (a b : Nat) (w : World) (pv qv : Value) (wr : World) : Prop := Below w.heap.size w wr ∧ ∃ p q : Nat, p ≤ 1000 ∧ q ≤ 1000 ∧ pv = .int .i64 p ∧ qv = .int .i64 q ∧ Nat.gcd p q = Nat.gcd a b
theorem gcd_step {p q a b : Nat} (h : Nat.gcd p q = Nat.gcd a b) : Nat.gcd q (p % q) = Nat.gcd a b := by
  rw [← h, Nat.gcd_comm p q, Nat.gcd_rec q p, Nat.gcd_comm]
set_option maxHeartbeats 800000 in
theorem l3Gcd_any (a b : Nat) (w : World) (ha : a ≤ 1000) (hb : b ≤ 1000) :
    Calls Try.prog 73 #[.int .i64 a, .int .i64 b] w fun e w' => e = .returned (.int .i64 (Nat.gcd a b : Nat)) ∧ Below w.heap.size w w' := by
  go_enter Try.func73, Try.ntmps73
  go_wp2_with fail
  go_loopw [0, 1] (fun pv qv wr => GcR 0 a b w pv qv wr) (fun _ qv _ => (intOf qv).toNat)
  case atStart => exact ⟨Below.refl _ _, a, b, ha, hb, rfl, rfl, rfl⟩
  case round =>
    obtain ⟨hbl, p, q, hp, hq, rfl, rfl, hg⟩ := hrel
    have HBL := Lib.hid hbl
    have HG := Lib.hid hg
    clear hbl hg
    by_cases h0 : 0 < q
    · have hnz : (q : Int) ≠ 0 := by omega
      have hnz2 : ((q : Int) == 0) = false := by simp; omega
      have ht : (p : Int).tmod q = ((p % q : Nat) : Int) := rfl
      have hml := Nat.mod_lt p h0
      have hw2 : IntKind.i64.wrap ((p % q : Nat) : Int) = ((p % q : Nat) : Int) := IntWalk.i64_in _ (by omega)
      have HN := Lib.hid (gcd_step HG.out)
      go_wp2_with fail
      go_quiet (fail)
      have HML := Lib.hid hml
      clear hml
      go_wp2_with fail
      go_roundw
      case rel => exact ⟨HBL.out.trans ((below_drewN _ _).mono HBL.out.size), q, p % q, hq, by have := HML.out; omega, rfl, rfl, HN.out⟩
      case measure =>
        show ((p % q : Nat) : Int).toNat < ((q : Nat) : Int).toNat
        have := HML.out
        omega
    · obtain rfl : q = 0 := by omega
      have HE := Lib.hid (show p = Nat.gcd a b by rw [← HG.out, Nat.gcd_zero_right])
      go_wp2_with fail
      go_ret
      exact ⟨by rw [← HE.out]; rfl, HBL.out⟩
/-- a fraction without a common divisor -/
def red (t g : Nat) : Int × Int := (((t / Nat.gcd t g : Nat) : Int), ((g / Nat.gcd t g : Nat) : Int))
theorem div_small (t d : Nat) (ht : t ≤ 1000) : t / d ≤ 1000 := Nat.le_trans (Nat.div_le_self t d) ht
def RdR (a b : Nat) (w : World) (pv qv : Value) (wr : World) : Prop :=
  Below w.heap.size w wr ∧ Two wr w.heap.size a b ∧ Two wr (w.heap.size + 1) 0 0 ∧ ∃ p q : Nat, p ≤ 1000 ∧ q ≤ 1000 ∧ pv = .int .i64 p ∧ qv = .int .i64 q ∧ Nat.gcd p q = Nat.gcd a b
set_option maxHeartbeats 1600000 in
set_option maxRecDepth 20000 in
theorem reduced_any (a b : Nat) (w : World) (ha : a ≤ 1000) (hb : b ≤ 1000) (hb1 : 1 ≤ b) :
    Calls Try.prog 93 #[.agg #[.int .i64 a, .int .i64 b]] w fun e w' => e = .returned (.agg #[.int .i64 (red a b).1, .int .i64 (red a b).2]) ∧ Below w.heap.size w w' := by
  have HBL := Lib.hid ((below_new w (.cells #[.int .i64 a, .int .i64 b] 46)).trans ((below_new (w.alloc (.cells #[.int .i64 a, .int .i64 b] 46)) (.cells #[.int .i64 0, .int .i64 0] 46)).mono (by simp)))
  have HA := Lib.hid ((blk_new w #[.int .i64 a, .int .i64 b] 46).below (below_new _ (.cells #[.int .i64 0, .int .i64 0] 46)))
  have HB := Lib.hid (blk_at (w.alloc (.cells #[.int .i64 a, .int .i64 b] 46)) #[.int .i64 0, .int .i64 0] 46 (w.heap.size + 1) (by simp))
  have c0 := HA.out.cell 0
  have c1 := HA.out.cell 1
  go_enter Try.func93, Try.ntmps93
  go_wp2_with fail
  go_quiet (fail)
  have HBL := Lib.hid (HBL.out.trans ((below_drewN _ nq).mono HBL.out.size))
  have HA := Lib.hid (HA.out.below (below_drewN _ nq))
  have HB := Lib.hid (HB.out.below (below_drewN _ nq))
  clear c0 c1
  go_wp2_with fail
  go_loopw [3, 4] (fun pv qv wr => RdR a b w pv qv wr) (fun _ qv _ => (intOf qv).toNat)
  case atStart => exact ⟨HBL.out, HA.out, HB.out, a, b, ha, hb, rfl, rfl, rfl⟩
  case round =>
    obtain ⟨hbl, hta, htb, p, q, hp, hq, rfl, rfl, hg⟩ := hrel
    clear HBL HA HB
    have HBL := Lib.hid hbl
    have HA := Lib.hid hta
    have HB := Lib.hid htb
    have HG := Lib.hid hg
    clear hbl hg hta htb
    by_cases h0 : 0 < q
    · have hnz : (q : Int) ≠ 0 := by omega
      have hnz2 : ((q : Int) == 0) = false := by simp; omega
      have ht : (p : Int).tmod q = ((p % q : Nat) : Int) := rfl
      have hml := Nat.mod_lt p h0
      have hw2 : IntKind.i64.wrap ((p % q : Nat) : Int) = ((p % q : Nat) : Int) := IntWalk.i64_in _ (by omega)
      have HN := Lib.hid (gcd_step HG.out)
      go_wp2_with fail
      go_quiet (fail)
      have HML := Lib.hid hml
      clear hml
      go_wp2_with fail
      go_roundw
      case rel => exact ⟨HBL.out.trans ((below_drewN _ _).mono HBL.out.size), HA.out.below (below_drewN _ _), HB.out.below (below_drewN _ _), q, p % q, hq, by have := HML.out; omega, rfl, rfl, HN.out⟩
      case measure =>
        show ((p % q : Nat) : Int).toNat < ((q : Nat) : Int).toNat
        have := HML.out
        omega
    · obtain rfl : q = 0 := by omega
      obtain ⟨d, hd⟩ : ∃ d, d = Nat.gcd a b := ⟨_, rfl⟩
      have HE := Lib.hid (show p = d by rw [hd, ← HG.out, Nat.gcd_zero_right])
      have hd1 : 1 ≤ d := by rw [hd]; exact Nat.gcd_pos_of_pos_right a hb1
      have hpd := HE.out
      subst hpd
      have HD := Lib.hid hd
      have hda := div_small a p ha
      have hdb := div_small b p hb
      clear hd
      have hnz : (p : Int) ≠ 0 := by omega
      have hnz2 : ((p : Int) == 0) = false := by simp; omega
      have ht1 : (a : Int).tdiv p = ((a / p : Nat) : Int) := rfl
      have ht2 : (b : Int).tdiv p = ((b / p : Nat) : Int) := rfl
      generalize hA : a / p = A at *
      generalize hB : b / p = B at *
      have HRE := Lib.hid (show red a b = ((A : Int), (B : Int)) by unfold red; rw [← HD.out, hA, hB])
      clear hA hB
      have hw1 : IntKind.i64.wrap (A : Int) = (A : Int) := IntWalk.i64_in _ (by omega)
      have hw2 : IntKind.i64.wrap (B : Int) = (B : Int) := IntWalk.i64_in _ (by omega)
      have c0 := HA.out.cell 0
      have c1 := HA.out.cell 1
      have d0 := HB.out.cell 0
      have d1 := HB.out.cell 1
      have f0 := HB.out.free 0
      have f1 := HB.out.free 1
      have HR := Lib.hid (set2_same (.int .i64 (A : Int)) (.int .i64 (B : Int)) HB.out)
      have HBE := Lib.hid (set2_below (v0 := .int .i64 (A : Int)) (v1 := .int .i64 (B : Int)) HBL.out (show w.heap.size ≤ w.heap.size + 1 by omega))
      go_wp2_with fail
      go_region
      have s0 := HR.out.cell 0
      have s1 := HR.out.cell 1
      go_wp2_with fail
      refine bodyPost_ret (v := .agg #[.int .i64 (A : Int), .int .i64 (B : Int)]) (by simp [results, Try.results93, go_sem, s0, s1]) rfl ⟨?_, HBE.out.trans ((below_drewN _ 1).mono HBE.out.size)⟩
      rw [HRE.out]
/-- the ratio of a search -/
def ratI (f : Int → Int) (a n : Int) : Int × Int := red (wor f a n).2.1.toNat (wor f a n).2.2.toNat
theorem wor_nat {n a x : Int} {xs : List Int} (hl : lineB n false a = true) (hs : searchB n a xs = true) (he0 : 0 ≤ x) (he9 : x ≤ 9) : ∃ (b : Int) (t g : Nat), wor (timT a x xs xs.length) a n = (b, (t : Int), (g : Int)) ∧ t ≤ 1000 ∧ g ≤ 1000 ∧ 1 ≤ g := by
  obtain ⟨hn1, hn2, _, ha0, ha1⟩ := (lineB_iff n false a).1 hl
  obtain ⟨b, t, g, h, hi⟩ := winv_at (n := n) (a := a) (f := timT a x xs xs.length) ⟨hn1, hn2⟩ ⟨ha0, ha1⟩ (fun k h0 h1 => timT_bounds (e := x) hs ha0 ha1 hn2 hn1 he0 he9 (k : Int) h0 h1) n.toNat (by omega)
  have h0 := hi.t0
  have h1 := hi.t1
  have h2 := hi.g0
  have h3 := hi.g1
  refine ⟨b, t.toNat, g.toNat, ?_, by omega, by omega, by omega⟩
  unfold wor
  rw [h, Int.toNat_of_nonneg h0, Int.toNat_of_nonneg (by omega)]
set_option maxHeartbeats 1600000 in
set_option maxRecDepth 20000 in
theorem ratio_any (n a x : Int) (v : Value) (xs : List Int) (w : World) (hv : ReadsI w v xs) (hl : lineB n false a = true) (hs : searchB n a xs = true) (he0 : 0 ≤ x) (he9 : x ≤ 9) (hlen : xs.length ≤ 1048576) :
    Calls Try.prog 74 #[sr n false a x, v] w fun e w' => e = .returned (.agg #[.int .i64 (ratI (timT a x xs xs.length) a n).1, .int .i64 (ratI (timT a x xs xs.length) a n).2]) ∧ Below w.heap.size w w' := by
  obtain ⟨b, t, g, hw, ht, hg, hg1⟩ := wor_nat hl hs he0 he9
  have HWO := Lib.hid (fun w hv => worst_any n a x v xs w hv hl hs he0 he9 hlen)
  have HRI := Lib.hid (show ratI (timT a x xs xs.length) a n = red t g by unfold ratI; rw [hw]; simp)
  rw [hw] at HWO
  have HRD := Lib.hid (fun w => reduced_any t g w ht hg hg1)
  have HA := Lib.hid ((blk_new w #[.int .i64 n, .bool false, .int .i64 a, .int .i64 x] 60).below (below_new _ (.cells #[.int .i64 0, .int .i64 0] 46)))
  have HB := Lib.hid (blk_at (w.alloc (.cells #[.int .i64 n, .bool false, .int .i64 a, .int .i64 x] 60)) #[.int .i64 0, .int .i64 0] 46 (w.heap.size + 1) (by simp))
  have HBL := Lib.hid ((below_new w (.cells #[.int .i64 n, .bool false, .int .i64 a, .int .i64 x] 60)).trans ((below_new (w.alloc (.cells #[.int .i64 n, .bool false, .int .i64 a, .int .i64 x] 60)) (.cells #[.int .i64 0, .int .i64 0] 46)).mono (by simp)))
  have HV := Lib.hid ((hv.below (below_new w (.cells #[.int .i64 n, .bool false, .int .i64 a, .int .i64 x] 60))).below (below_new _ (.cells #[.int .i64 0, .int .i64 0] 46)))
  obtain ⟨y, c, rfl, hc, hm, _⟩ := hv
  clear hl hs hw
  unfold sr at *
  have c0 := HA.out.cell 0
  have c1 := HA.out.cell 1
  have c2 := HA.out.cell 2
  have c3 := HA.out.cell 3
  go_enter Try.func74, Try.ntmps74
  go_wp2_with fail
  refine (HWO.out _ HV.out).mono ?_
  rintro e w1 ⟨rfl, hb⟩
  have HB1 := Lib.hid ((HB.out.below hb).below (below_new _ (.cells #[.int .i64 (t : Int), .int .i64 (g : Int)] 46)))
  have HT := Lib.hid (blk_new w1 #[.int .i64 (t : Int), .int .i64 (g : Int)] 46)
  have HBL1 := Lib.hid ((HBL.out.trans (hb.mono HBL.out.size)).trans ((below_new w1 (.cells #[.int .i64 (t : Int), .int .i64 (g : Int)] 46)).mono (HBL.out.trans (hb.mono HBL.out.size)).size))
  clear c0 c1 c2 c3 hb HB HBL HA HV
  have d0 := HT.out.cell 0
  have d1 := HT.out.cell 1
  go_wp2_with fail
  refine (HRD.out _).mono ?_
  rintro e w2 ⟨rfl, hb⟩
  have HB2 := Lib.hid (HB1.out.below hb)
  have HBL2 := Lib.hid (HBL1.out.trans (hb.mono HBL1.out.size))
  clear hb d0 d1 HB1 HBL1
  have d0 := HB2.out.cell 0
  have d1 := HB2.out.cell 1
  have f0 := HB2.out.free 0
  have f1 := HB2.out.free 1
  have HR := Lib.hid (set2_same (.int .i64 (red t g).1) (.int .i64 (red t g).2) HB2.out)
  have HBE := Lib.hid (set2_below (v0 := .int .i64 (red t g).1) (v1 := .int .i64 (red t g).2) HBL2.out (show w.heap.size ≤ w.heap.size + 1 by omega))
  have s0 := HR.out.cell 0
  have s1 := HR.out.cell 1
  generalize red t g = R at *
  go_wp2_with fail
  refine bodyPost_ret (v := .agg #[.int .i64 R.1, .int .i64 R.2]) (by simp [results, Try.results74, go_sem, s0, s1]) rfl ⟨?_, HBE.out⟩
  rw [HRI.out]
end Go.Proofs.Ytnclfdfnhhicdaa
