/-
  What is proved: the contracts of spec.l3Gcd and impl.reduced. Conditions: numbers up to 1000.
-/
import Derived.Test.YtefjignlhlpndaaBlk
import Derived.Test.YtefjignlhlpndaaTba
import Derived.Deep.QuietTactic
import Derived.BigQuiet
import Derived.RegionTactic
import Derived.ChangeAlike
import Derived.IntWalk
namespace Go.Proofs.Ytefjignlhlpndaa
open Go.RowKit
set_option linter.unusedVariables false
set_option linter.unusedSimpArgs false

theorem set1_same (W : World) (b j : Nat) (cs : Array Value) (t : TypeId) (v : Value) (h : Blk W b cs t) : Blk (W.setCell ⟨b, j, none⟩ v) b (cs.setIfInBounds j v) t := heap_setCell_same W b j _ t v h
theorem set1_other {W : World} {b c j : Nat} {cs : Array Value} {t : TypeId} {v : Value} (h : Blk W c cs t) (hne : c ≠ b) : Blk (W.setCell ⟨b, j, none⟩ v) c cs t := (Below.heap_setCell W ⟨b, j, none⟩ v c hne).trans h
theorem set2_same {W : World} {b : Nat} {x0 x1 : Value} {t : TypeId} (v0 v1 : Value) (h : Blk W b #[x0, x1] t) : Blk ((W.setCell ⟨b, 0, none⟩ v0).setCell ⟨b, 1, none⟩ v1) b #[v0, v1] t :=
  set1_same _ b 1 _ t v1 (set1_same _ b 0 _ t v0 h)
theorem set2_other {W : World} {b c : Nat} {cs : Array Value} {t : TypeId} {v0 v1 : Value} (h : Blk W c cs t) (hne : c ≠ b) : Blk ((W.setCell ⟨b, 0, none⟩ v0).setCell ⟨b, 1, none⟩ v1) c cs t :=
  set1_other (set1_other h hne) hne
theorem set2_below {base : Nat} {w W : World} {b : Nat} {v0 v1 : Value} (h : Below base w W) (hb : base ≤ b) : Below base w ((W.setCell ⟨b, 0, none⟩ v0).setCell ⟨b, 1, none⟩ v1) :=
  (h.setCell (p := ⟨b, 0, none⟩) hb _).setCell (p := ⟨b, 1, none⟩) hb _
/-- two numbers in a block -/
abbrev Two (w : World) (b : Nat) (t g : Int) : Prop := Blk w b #[.int .i64 t, .int .i64 g] 65
theorem gcd_step {p q a b : Nat} (h : Nat.gcd p q = Nat.gcd a b) : Nat.gcd q (p % q) = Nat.gcd a b := by
  rw [← h, Nat.gcd_comm p q, Nat.gcd_rec q p, Nat.gcd_comm]
def GcR (m : Nat) (a b : Nat) (w : World) (pv qv : Value) (wr : World) : Prop := Below w.heap.size w wr ∧ ∃ p q : Nat, p ≤ 1000 ∧ q ≤ 1000 ∧ pv = .int .i64 p ∧ qv = .int .i64 q ∧ Nat.gcd p q = Nat.gcd a b
set_option maxHeartbeats 800000 in
theorem l3Gcd_any (a b : Nat) (w : World) (ha : a ≤ 1000) (hb : b ≤ 1000) :
    Calls Try.prog 68 #[.int .i64 a, .int .i64 b] w fun e w' => e = .returned (.int .i64 (Nat.gcd a b : Nat)) ∧ Below w.heap.size w w' := by
  go_enter Try.func68, Try.ntmps68
  go_wp2_with fail
  go_loopw [0, 1] (fun pv qv wr => GcR 0 a b w pv qv wr) (fun _ qv _ => (intOf qv).toNat)
  case atStart => exact ⟨Below.refl _ _, a, b, ha, hb, rfl, rfl, rfl⟩
  case round =>
    obtain ⟨hbl, p, q, hp, hq, rfl, rfl, hg⟩ := hrel
    have HBL := Lib.hid hbl
    have HG := Lib.hid hg
    clear hbl hg
    by_cases h0 : 0 < q
    · have hnz : (q : Int) ≠ 0 := by omega
      have hnz2 : ((q : Int) == 0) = false := by simp; omega
      have ht : (p : Int).tmod q = ((p % q : Nat) : Int) := rfl
      have hml := Nat.mod_lt p h0
      have hw2 : IntKind.i64.wrap ((p % q : Nat) : Int) = ((p % q : Nat) : Int) := IntWalk.i64_in _ (by omega)
      have HN := Lib.hid (gcd_step HG.out)
      go_wp2_with fail
      go_quiet (fail)
      have HML := Lib.hid hml
      clear hml
      go_wp2_with fail
      go_roundw
      case rel => exact ⟨HBL.out.trans ((below_drewN _ _).mono HBL.out.size), q, p % q, hq, by have := HML.out; omega, rfl, rfl, HN.out⟩
      case measure =>
        show ((p % q : Nat) : Int).toNat < ((q : Nat) : Int).toNat
        have := HML.out
        omega
    · obtain rfl : q = 0 := by omega
      have HE := Lib.hid (show p = Nat.gcd a b by rw [← HG.out, Nat.gcd_zero_right])
      go_wp2_with fail
      go_ret
      exact ⟨by rw [← HE.out]; rfl, HBL.out⟩
/-- a fraction without a common divisor -/
def red (t g : Nat) : Int × Int := (((t / Nat.gcd t g : Nat) : Int), ((g / Nat.gcd t g : Nat) : Int))
theorem div_small (t d : Nat) (ht : t ≤ 1000) : t / d ≤ 1000 := Nat.le_trans (Nat.div_le_self t d) ht
def RdR (a b : Nat) (w : World) (pv qv : Value) (wr : World) : Prop :=
  Below w.heap.size w wr ∧ Two wr w.heap.size a b ∧ Two wr (w.heap.size + 1) 0 0 ∧ ∃ p q : Nat, p ≤ 1000 ∧ q ≤ 1000 ∧ pv = .int .i64 p ∧ qv = .int .i64 q ∧ Nat.gcd p q = Nat.gcd a b
set_option maxHeartbeats 1600000 in
set_option maxRecDepth 20000 in
theorem reduced_any (a b : Nat) (w : World) (ha : a ≤ 1000) (hb : b ≤ 1000) (hb1 : 1 ≤ b) :
    Calls Try.prog 70 #[.agg #[.int .i64 a, .int .i64 b]] w fun e w' => e = .returned (.agg #[.int .i64 (red a b).1, .int .i64 (red a b).2]) ∧ Below w.heap.size w w' := by
  have HBL := Lib.hid ((below_new w (.cells #[.int .i64 a, .int .i64 b] 65)).trans ((below_new (w.alloc (.cells #[.int .i64 a, .int .i64 b] 65)) (.cells #[.int .i64 0, .int .i64 0] 65)).mono (by simp)))
  have HA := Lib.hid ((blk_new w #[.int .i64 a, .int .i64 b] 65).below (below_new _ (.cells #[.int .i64 0, .int .i64 0] 65)))
  have HB := Lib.hid (blk_at (w.alloc (.cells #[.int .i64 a, .int .i64 b] 65)) #[.int .i64 0, .int .i64 0] 65 (w.heap.size + 1) (by simp))
  have c0 := HA.out.cell 0
  have c1 := HA.out.cell 1
  go_enter Try.func70, Try.ntmps70
  go_wp2_with fail
  go_quiet (fail)
  have HBL := Lib.hid (HBL.out.trans ((below_drewN _ nq).mono HBL.out.size))
  have HA := Lib.hid (HA.out.below (below_drewN _ nq))
  have HB := Lib.hid (HB.out.below (below_drewN _ nq))
  clear c0 c1
  go_wp2_with fail
  go_loopw [3, 4] (fun pv qv wr => RdR a b w pv qv wr) (fun _ qv _ => (intOf qv).toNat)
  case atStart => exact ⟨HBL.out, HA.out, HB.out, a, b, ha, hb, rfl, rfl, rfl⟩
  case round =>
    obtain ⟨hbl, hta, htb, p, q, hp, hq, rfl, rfl, hg⟩ := hrel
    clear HBL HA HB
    have HBL := Lib.hid hbl
    have HA := Lib.hid hta
    have HB := Lib.hid htb
    have HG := Lib.hid hg
    clear hbl hg hta htb
    by_cases h0 : 0 < q
    · have hnz : (q : Int) ≠ 0 := by omega
      have hnz2 : ((q : Int) == 0) = false := by simp; omega
      have ht : (p : Int).tmod q = ((p % q : Nat) : Int) := rfl
      have hml := Nat.mod_lt p h0
      have hw2 : IntKind.i64.wrap ((p % q : Nat) : Int) = ((p % q : Nat) : Int) := IntWalk.i64_in _ (by omega)
      have HN := Lib.hid (gcd_step HG.out)
      go_wp2_with fail
      go_quiet (fail)
      have HML := Lib.hid hml
      clear hml
      go_wp2_with fail
      go_roundw
      case rel => exact ⟨HBL.out.trans ((below_drewN _ _).mono HBL.out.size), HA.out.below (below_drewN _ _), HB.out.below (below_drewN _ _), q, p % q, hq, by have := HML.out; omega, rfl, rfl, HN.out⟩
      case measure =>
        show ((p % q : Nat) : Int).toNat < ((q : Nat) : Int).toNat
        have := HML.out
        omega
    · obtain rfl : q = 0 := by omega
      obtain ⟨d, hd⟩ : ∃ d, d = Nat.gcd a b := ⟨_, rfl⟩
      have HE := Lib.hid (show p = d by rw [hd, ← HG.out, Nat.gcd_zero_right])
      have hd1 : 1 ≤ d := by rw [hd]; exact Nat.gcd_pos_of_pos_right a hb1
      have hpd := HE.out
      subst hpd
      have HD := Lib.hid hd
      have hda := div_small a p ha
      have hdb := div_small b p hb
      clear hd
      have hnz : (p : Int) ≠ 0 := by omega
      have hnz2 : ((p : Int) == 0) = false := by simp; omega
      have ht1 : (a : Int).tdiv p = ((a / p : Nat) : Int) := rfl
      have ht2 : (b : Int).tdiv p = ((b / p : Nat) : Int) := rfl
      generalize hA : a / p = A at *
      generalize hB : b / p = B at *
      have HRE := Lib.hid (show red a b = ((A : Int), (B : Int)) by unfold red; rw [← HD.out, hA, hB])
      clear hA hB
      have hw1 : IntKind.i64.wrap (A : Int) = (A : Int) := IntWalk.i64_in _ (by omega)
      have hw2 : IntKind.i64.wrap (B : Int) = (B : Int) := IntWalk.i64_in _ (by omega)
      have c0 := HA.out.cell 0
      have c1 := HA.out.cell 1
      have d0 := HB.out.cell 0
      have d1 := HB.out.cell 1
      have f0 := HB.out.free 0
      have f1 := HB.out.free 1
      have HR := Lib.hid (set2_same (.int .i64 (A : Int)) (.int .i64 (B : Int)) HB.out)
      have HBE := Lib.hid (set2_below (v0 := .int .i64 (A : Int)) (v1 := .int .i64 (B : Int)) HBL.out (show w.heap.size ≤ w.heap.size + 1 by omega))
      go_wp2_with fail
      go_region
      have s0 := HR.out.cell 0
      have s1 := HR.out.cell 1
      go_wp2_with fail
      refine bodyPost_ret (v := .agg #[.int .i64 (A : Int), .int .i64 (B : Int)]) (by simp [results, Try.results70, go_sem, s0, s1]) rfl ⟨?_, HBE.out.trans ((below_drewN _ 1).mono HBE.out.size)⟩
      rw [HRE.out]
end Go.Proofs.Ytefjignlhlpndaa
