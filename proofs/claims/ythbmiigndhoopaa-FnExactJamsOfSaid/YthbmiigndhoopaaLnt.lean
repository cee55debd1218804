/-
  What is proved: a turn of a lane, of the model and of the program. Conditions: those of each contract.
-/
import Derived.Test.YthbmiigndhoopaaLnb
import Derived.Test.YthbmiigndhoopaaStp
import Derived.Test.YthbmiigndhoopaaFn18
import Derived.Test.YthbmiigndhoopaaBlk
namespace Go.Proofs.Ythbmiigndhoopaa
open Go.RowKit
set_option linter.unusedVariables false
set_option linter.unusedSimpArgs false

/-- the answer is a list of its own, a number and a truth -/
def OwnsBI (base : Nat) (xs : List Int) (z : Int) (b : Bool) (w : World) (e : Ending) (w' : World) : Prop :=
  ∃ v, e = .returned (.tuple #[v, .int .i64 z, .bool b]) ∧ w'.ownsRow base 3 1 v xs.length (xs.map iv) ∧ Below base w w'
theorem cellI {w : World} {base : Nat} {n : Nat} {xs : List Int} {k : Nat} {x : Int} {a : Option Addr} {l c : Nat} (h : w.ownsRow base 3 1 (.slice a l c) n (xs.map iv)) (hx : xs[k]? = some x) (hk : k < n) : ∃ g, a = some ⟨g, 0, none⟩ ∧ base ≤ g ∧ g < w.heap.size ∧ w.cell? ⟨g, k, none⟩ = some (.int .i64 x) ∧ w.frozen? ⟨g, k, none⟩ = false := by
  rcases h.2 with ⟨hv, h0⟩ | ⟨g, cap, cur, hv, hg, hblk, h3⟩
  · omega
  · cases hv
    have hc := h.cellAt k (by omega)
    refine ⟨g, rfl, hg, (Array.getElem?_eq_some_iff.1 hblk).1, ?_, h.frozenAt k⟩
    rw [hc, List.getElem?_map, hx]
    rfl
/-- the model's turn in the middle -/
def TuRelM (l : List Int) (base : Nat) (w : World) (v : Value) (vf vi : Value) (wr : World) : Prop :=
  ∃ k : Nat, k ≤ l.length ∧ vi = .int .i64 k ∧ vf = .int .i64 (floTo l k : Nat) ∧ wr.ownsRow base 3 1 v l.length ((outTo l k).map iv) ∧ Below base w wr
/-- the answer is a list of its own, and a number -/
def OwnsNI (base : Nat) (xs : List Int) (z : Int) (w : World) (e : Ending) (w' : World) : Prop :=
  ∃ v, e = .returned (.tuple #[v, .int .i64 z]) ∧ w'.ownsRow base 3 1 v xs.length (xs.map iv) ∧ Below base w w'
theorem turnM_yes {l : List Int} {base k g : Nat} {w wr : World} {c : Nat} (hk : k < l.length) (hgo : goB l k = true) (ho : wr.ownsRow base 3 1 (.slice (some ⟨g, 0, none⟩) l.length c) l.length ((outTo l k).map iv)) (hb : Below base w wr) (hg : base ≤ g) :
    ((wr.setCell ⟨g, k, none⟩ (.int .i64 0)).setCell ⟨g, nx l.length k, none⟩ (.int .i64 1)).ownsRow base 3 1 (.slice (some ⟨g, 0, none⟩) l.length c) l.length ((outTo l (k + 1)).map iv) ∧ Below base w ((wr.setCell ⟨g, k, none⟩ (.int .i64 0)).setCell ⟨g, nx l.length k, none⟩ (.int .i64 1)) := by
  have h1 := ho.stored k (.int .i64 0)
  have h2 := h1.1.stored (nx l.length k) (.int .i64 1)
  refine ⟨?_, (hb.setCell hg _).setCell hg _⟩
  have e : (outTo l (k + 1)).map iv = (((outTo l k).map iv).set k (.int .i64 0)).set (nx l.length k) (.int .i64 1) := by
    rw [show outTo l (k + 1) = ((outTo l k).set k 0).set (nx l.length k) 1 by show (if goB l k then _ else _) = _; rw [if_pos hgo], List.map_set, List.map_set]
  rw [e]
  exact h2.1
theorem tum_yes {l : List Int} {base k g q : Nat} {w wr : World} {c : Nat} {vf vi : Value} (hq : nx l.length k = q) (hk : k < l.length) (hgo : goB l k = true) (ho : wr.ownsRow base 3 1 (.slice (some ⟨g, 0, none⟩) l.length c) l.length ((outTo l k).map iv)) (hb : Below base w wr) (hg : base ≤ g) (hi : vi = .int .i64 ((k + 1 : Nat) : Int)) (hf : vf = .int .i64 ((floTo l k + 1 : Nat) : Int)) :
    TuRelM l base w (.slice (some ⟨g, 0, none⟩) l.length c) vf vi ((wr.setCell ⟨g, k, none⟩ (.int .i64 0)).setCell ⟨g, q, none⟩ (.int .i64 1)) := by
  subst hq
  have h := turnM_yes hk hgo ho hb hg
  refine ⟨k + 1, hk, hi, ?_, h.1, h.2⟩
  rw [hf, show floTo l (k + 1) = floTo l k + 1 by show (if goB l k then _ else _) = _; rw [if_pos hgo]]
theorem tum_no {l : List Int} {base k : Nat} {w wr : World} {v vf vi : Value} (hk : k < l.length) (hgo : ¬ goB l k = true) (ho : wr.ownsRow base 3 1 v l.length ((outTo l k).map iv)) (hb : Below base w wr) (hi : vi = .int .i64 ((k + 1 : Nat) : Int)) (hf : vf = .int .i64 ((floTo l k : Nat) : Int)) : TuRelM l base w v vf vi wr := by
  refine ⟨k + 1, hk, hi, ?_, ?_, hb⟩
  · rw [hf, show floTo l (k + 1) = floTo l k by show (if goB l k then _ else _) = _; rw [if_neg hgo]]
  · rw [show outTo l (k + 1) = outTo l k by show (if goB l k then _ else _) = _; rw [if_neg hgo]]
    exact ho
set_option maxHeartbeats 1600000 in
set_option maxRecDepth 20000 in
theorem l8Turn_any (v : Value) (l : List Int) (w : World) (hv : ReadsI w v l) (h3 : 1 ≤ l.length) (h24 : l.length ≤ 24) :
    Calls Try.prog 62 #[v] w (OwnsNI w.heap.size (outTo l l.length) (floTo l l.length : Nat) w) := by
  have HO := Lib.hid (fun w hv => own_any v l w hv h3 (by omega))
  have HV := Lib.hid hv
  obtain ⟨y, c, rfl, hc, hm, hx⟩ := hv
  have HL := Lib.hid hx
  clear hx
  unfold maxLen at hm
  go_enter Try.func62, Try.ntmps62
  go_wp2_with fail
  refine (HO.out _ HV.out).mono ?_
  rintro e w1 ⟨v1, rfl, ho, hb⟩
  obtain ⟨a1, c1, rfl, ha1⟩ := owns_shape ho
  obtain ⟨g1, rfl, hg1, hg2⟩ := ha1 (by omega)
  have HB := Lib.hid hb
  have HOW := Lib.hid ho
  clear hb ho
  go_wp2_with fail
  go_loopw [5, 7] (fun vf vi wr => TuRelM l w.heap.size w (.slice (some ⟨g1, 0, none⟩) l.length c1) vf vi wr) (fun _ i _ => l.length - (intOf i).toNat)
  case atStart => exact ⟨0, Nat.zero_le _, rfl, rfl, HOW.out, HB.out⟩
  case round =>
    obtain ⟨k, hk, rfl, rfl, ho, hb⟩ := hrel
    clear HOW HB
    have HOW := Lib.hid ho
    have HB := Lib.hid hb
    clear ho hb
    by_cases hlt : k < l.length
    · obtain ⟨x, hxk⟩ := get_some hlt
      have hnl : nx l.length k < l.length := nx_lt (by omega)
      obtain ⟨z, hzk⟩ := get_some hnl
      obtain ⟨b, o, rfl, hbl, hcell⟩ := HL.out k x hxk
      obtain ⟨b2, o2, e2, hbl2, hcell2⟩ := HL.out _ z hzk
      cases e2
      have hcr : wr.cell? ⟨b, o + k, none⟩ = some (.int .i64 x) := (HB.out.cell (p := ⟨b, o + k, none⟩) hbl).trans hcell
      have hcr2 : wr.cell? ⟨b, o + nx l.length k, none⟩ = some (.int .i64 z) := (HB.out.cell (p := ⟨b, o + nx l.length k, none⟩) hbl).trans hcell2
      have hfl := floTo_le l k
      have hgo : goB l k = true ↔ x = 1 ∧ z = 0 := by unfold goB; simp [List.getD, hxk, hzk]
      have HGO := Lib.hid hgo
      have hmod : IntKind.i64.wrap ((k : Int) + 1) = ((k : Int) + 1) := IntWalk.i64_in _ (by omega)
      have htm := nx_tmod hlt
      have hnz : (l.length : Int) ≠ 0 := by omega
      obtain ⟨u, hu⟩ := get_some (xs := (outTo l k).map iv) (k := k) (by rw [List.length_map, outTo_len]; omega)
      obtain ⟨u2, hu2⟩ := get_some (xs := ((outTo l k).map iv).set k (.int .i64 0)) (k := nx l.length k) (by rw [List.length_set, List.length_map, outTo_len]; omega)
      have hst := HOW.out.stored k (.int .i64 0)
      have hold := (HOW.out.cellAt k (by omega)).trans hu
      have hfr := HOW.out.frozenAt k
      have hold2 := (hst.1.cellAt (nx l.length k) (by omega)).trans hu2
      have hfr2 := hst.1.frozenAt (nx l.length k)
      have hi0 : 0 ≤ (k : Int) := by omega
      have hi1 : (k : Int) < l.length := by omega
      have hi2 : ((nx l.length k : Nat) : Int) < l.length := by omega
      clear hst hu hu2 hxk hzk hgo hcell hcell2
      generalize hq : nx l.length k = q at *
      have HQ := Lib.hid hq
      clear hq
      by_cases hx1 : x = 1
      · subst hx1
        by_cases hz0 : z = 0
        · subst hz0
          go_wp2_with fail
          go_roundw
          case rel => exact tum_yes HQ.out hlt (HGO.out.2 ⟨rfl, rfl⟩) HOW.out HB.out hg1 (by go_num) (by go_num)
          case measure => simp [intOf] <;> omega
        · have hz1 : (z == 0) = false := by simp [hz0]
          go_wp2_with fail
          go_roundw
          case rel => exact tum_no hlt (fun h => hz0 (HGO.out.1 h).2) HOW.out HB.out (by go_num) rfl
          case measure => simp [intOf] <;> omega
      · have hz1 : (x == 1) = false := by simp [hx1]
        go_wp2_with fail
        go_roundw
        case rel => exact tum_no hlt (fun h => hx1 (HGO.out.1 h).1) HOW.out HB.out (by go_num) rfl
        case measure => simp [intOf] <;> omega
    · have hke : k = l.length := by omega
      subst hke
      have hi1 : ¬ (l.length : Int) < l.length := by omega
      go_wp2_with fail
      go_ret2
      refine ⟨_, rfl, ?_, HB.out⟩
      rw [outTo_len]
      exact HOW.out
end Go.Proofs.Ythbmiigndhoopaa
