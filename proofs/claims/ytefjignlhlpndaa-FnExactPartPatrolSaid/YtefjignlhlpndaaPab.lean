/-
  What is proved: the contract of spec.l5Sweep. Conditions: a part of 1 to 24 places from 0 to 24 on.
-/
import Derived.Test.YtefjignlhlpndaaPaa
namespace Go.Proofs.Ytefjignlhlpndaa
open Go.RowKit
set_option linter.unusedVariables false
set_option linter.unusedSimpArgs false

def UpRel (a M base : Nat) (w0 : World) (v i : Value) (wr : World) : Prop :=
  Below base w0 wr ∧ base ≤ wr.heap.size ∧ ∃ t : Nat, t ≤ M ∧ i = .int .i64 ((a : Int) + t) ∧ wr.ownsRow base 3 1 v t ((rowF (upF a) t).map iv)
def DnRel (pre : List Int) (a M m base : Nat) (w0 : World) (v i : Value) (wr : World) : Prop :=
  Below base w0 wr ∧ base ≤ wr.heap.size ∧ ∃ t : Nat, t ≤ m ∧ i = .int .i64 ((a : Int) + M - 2 - t) ∧ wr.ownsRow base 3 1 v (pre.length + t) ((pre ++ rowF (inF a M) t).map iv)
theorem pre_snoc (pre : List Int) (x : Int) : pre.map iv ++ [Value.int .i64 x] = (pre ++ [x]).map iv := by simp [iv]
set_option maxHeartbeats 3200000 in
set_option maxRecDepth 20000 in
theorem l5Sweep_any (a M : Nat) (W : Bool) (w : World) (hM : 1 ≤ M ∧ M ≤ 24) (ha : a ≤ 24) :
    Calls Try.prog 89 #[.int .i64 a, .int .i64 M, .bool W] w (OwnsI w.heap.size (sweepT a M W) w) := by
  obtain ⟨i0, hi, hz0, hz1, hz2⟩ := info_parts infoInt
  obtain ⟨hM1, hM24⟩ := hM
  have HBN := Lib.hid (below_new w (.cells #[] 3))
  have HMN := Lib.hid (made_at w w.heap.size w.heap.size rfl (Nat.le_refl _))
  have hwm : IntKind.i64.wrap ((a : Int) + M) = (a : Int) + M := IntWalk.i64_in _ (by omega)
  have hwm1 : IntKind.i64.wrap ((a : Int) + M - 1) = (a : Int) + M - 1 := IntWalk.i64_in _ (by omega)
  have hwm2 : IntKind.i64.wrap ((a : Int) + M - 2) = (a : Int) + M - 2 := IntWalk.i64_in _ (by omega)
  have HW := Lib.hid (And.intro hwm (And.intro hwm1 hwm2))
  clear hwm hwm1 hwm2
  go_enter Try.func89, Try.ntmps89
  go_wp2_with fail
  go_loopw [7, 8] (fun z i wr => UpRel a M w.heap.size w z i wr) (fun _ i _ => ((a : Int) + M - intOf i).toNat)
  case atStart => exact ⟨HBN.out, by simp, 0, Nat.zero_le _, by simp, HMN.out⟩
  case round =>
    obtain ⟨hb, hbs, t, ht, rfl, hown⟩ := hrel
    clear HBN HMN
    have HB := Lib.hid hb
    have HBS := Lib.hid hbs
    have HO := Lib.hid hown
    clear hb hbs hown
    by_cases hlt : t < M
    · have hpi : (a : Int) + t < (a : Int) + M := by omega
      have hwt : IntKind.i64.wrap ((a : Int) + t) = (a : Int) + t := IntWalk.i64_in _ (by omega)
      have HSN := Lib.hid (show (rowF (upF a) t).map iv ++ [Value.int .i64 ((a : Int) + t)] = (rowF (upF a) (t + 1)).map iv from rowF_snoc (upF a) t)
      generalize hys : (rowF (upF a) t).map iv = ys at *
      clear hys
      go_wp2_with (at_builtin; refine wpList_append_own _ rfl _ _ 43 rfl w.heap.size 3 i0 (.int .i64 0) 1 8 Try.underlying43 hi hz0 hz1 hz2 rfl (by decide) _ _ _ rfl (HO.out.alloc _) ⟨wr.heap.size, 0, none⟩ 1 1 [.int .i64 ((a : Int) + t)] rfl rfl (cell_one_new _ _ _) ?c2 ?c3 ?c4 ?c5 ?_)
      case c2 => first | rfl | (intro u hu; simp at hu; subst hu; rfl)
      case c3 => unfold maxLen; omega
      case c4 => omega
      case c5 => have := HBS.out; first | omega | (simp; omega)
      intro v9 w9 hown9 hgrow9 _
      have hbl := fun b hb => (row_block HO.out b hb).1
      have HB9 := Lib.hid ((HB.out.trans ((below_new wr (.cells #[.int .i64 ((a : Int) + t)] 3)).mono HBS.out)).trans (below_grown hgrow9 hbl (by have := HBS.out; simp; omega)))
      have HBS9 := Lib.hid (Nat.le_trans (by have := HBS.out; simp; omega : w.heap.size ≤ (wr.alloc (.cells #[.int .i64 ((a : Int) + t)] 3)).heap.size) hgrow9.size)
      have HO9 := Lib.hid hown9
      clear hbl hgrow9 hown9
      go_wp2_with fail
      go_roundw
      case rel => exact ⟨HB9.out, HBS9.out, t + 1, by omega, by (first | (congr 1; omega) | congr 1), by rw [← HSN.out]; exact HO9.out⟩
      case measure => simp [intOf] <;> omega
    · have hte : t = M := by omega
      subst hte
      have hpi : ¬ (a : Int) + t < (a : Int) + t := by omega
      cases W
      · skip
        have HLP := Lib.hid (show (rowF (upF a) t).length = t by rw [rowF_len])
        have HOP := Lib.hid (show wr.ownsRow w.heap.size 3 1 _ ((rowF (upF a) t).length + 0) ((rowF (upF a) t ++ rowF (inF a t) 0).map iv) from by rw [HLP.out, show rowF (inF a t) 0 = [] from rfl, List.append_nil]; exact HO.out)
        have hw2 := HW.out.2.2
        go_wp2_with fail
        clear hw2
        obtain ⟨pre, hpre⟩ : ∃ pre, pre = (rowF (upF a) t) := ⟨_, rfl⟩
        have HPE := Lib.hid hpre
        have HPL := Lib.hid (show pre.length ≤ 25 by rw [hpre, HLP.out]; omega)
        have HOP := Lib.hid (show World.ownsRow _ w.heap.size 3 1 _ (pre.length + 0) ((pre ++ rowF (inF a t) 0).map iv) from by rw [hpre]; exact HOP.out)
        clear hpre HLP
        have HB0 := Lib.hid HB.out
        have HBS0 := Lib.hid HBS.out
        go_loopw [7, 9] (fun z i wr => DnRel pre a t (t - 2) w.heap.size w z i wr) (fun _ i _ => (intOf i - a).toNat)
        case atStart => exact ⟨HB0.out, HBS0.out, 0, Nat.zero_le _, by simp, HOP.out⟩
        case round =>
          obtain ⟨hb, hbs, s, hs, rfl, hown⟩ := hrel
          clear HB0 HBS0 HOP HB HBS HO
          have HB := Lib.hid hb
          have HBS := Lib.hid hbs
          have HO := Lib.hid hown
          clear hb hbs hown
          have hpl := HPL.out
          by_cases hls : s < t - 2
          · have hgt : (a : Int) < (a : Int) + t - 2 - s := by omega
            have hwt : IntKind.i64.wrap ((a : Int) + t - 2 - s) = (a : Int) + t - 2 - s := IntWalk.i64_in _ (by omega)
            have hwt2 : IntKind.i64.wrap ((a : Int) + t - 2 - s - 1) = (a : Int) + t - 2 - s - 1 := IntWalk.i64_in _ (by omega)
            have HSN := Lib.hid (show (pre ++ rowF (inF a t) s).map iv ++ [Value.int .i64 ((a : Int) + t - 2 - s)] = (pre ++ rowF (inF a t) (s + 1)).map iv from by rw [pre_snoc, List.append_assoc, rowF_next]; rfl)
            generalize hys : (pre ++ rowF (inF a t) s).map iv = ys at *
            generalize hpln : pre.length = pl at *
            clear hys
            go_wp2_with (at_builtin; refine wpList_append_own _ rfl _ _ 43 rfl w.heap.size 3 i0 (.int .i64 0) 1 8 Try.underlying43 hi hz0 hz1 hz2 rfl (by decide) _ _ _ rfl (HO.out.alloc _) ⟨wr.heap.size, 0, none⟩ 1 1 [.int .i64 ((a : Int) + t - 2 - s)] rfl rfl (cell_one_new _ _ _) ?c2 ?c3 ?c4 ?c5 ?_)
            case c2 => first | rfl | (intro u hu; simp at hu; subst hu; rfl)
            case c3 => unfold maxLen; omega
            case c4 => omega
            case c5 => have := HBS.out; first | omega | (simp; omega)
            intro v9 w9 hown9 hgrow9 _
            have hbl := fun b hb => (row_block HO.out b hb).1
            have HB9 := Lib.hid ((HB.out.trans ((below_new wr (.cells #[.int .i64 ((a : Int) + t - 2 - s)] 3)).mono HBS.out)).trans (below_grown hgrow9 hbl (by have := HBS.out; simp; omega)))
            have HBS9 := Lib.hid (Nat.le_trans (by have := HBS.out; simp; omega : w.heap.size ≤ (wr.alloc (.cells #[.int .i64 ((a : Int) + t - 2 - s)] 3)).heap.size) hgrow9.size)
            have HO9 := Lib.hid hown9
            clear hbl hgrow9 hown9
            go_wp2_with fail
            go_roundw
            case rel => exact ⟨HB9.out, HBS9.out, s + 1, by omega, by (first | (congr 1; omega) | congr 1), by rw [← HSN.out, hpln, ← Nat.add_assoc]; exact HO9.out⟩
            case measure => simp [intOf] <;> omega
          · have hse : s = t - 2 := by omega
            have hgt : ¬ (a : Int) < (a : Int) + t - 2 - s := by omega
            have HSE := Lib.hid hse
            clear hse
            go_wp2_with fail
            go_ret
            have hres : sweepT a t false = pre ++ rowF (inF a t) s := by rw [sweep_go a t hM1, HPE.out, HSE.out]
            refine ⟨_, rfl, ?_, HB.out⟩
            rw [hres, List.length_append, rowF_len]
            exact HO.out
      · by_cases hone : t = 1
        · have htle : t ≤ 1 := by omega
          clear hone
          have hW1 := HW.out.2.1
          have HSN := Lib.hid (pre_snoc (rowF (upF a) t) ((a : Int) + t - 1))
          have HLP := Lib.hid (show (rowF (upF a) t ++ [(a : Int) + t - 1]).length = t + 1 by rw [List.length_append, rowF_len]; rfl)
          generalize hys : (rowF (upF a) t).map iv = ys at *
          clear hys
          go_wp2_with (at_builtin; refine wpList_append_own _ rfl _ _ 43 rfl w.heap.size 3 i0 (.int .i64 0) 1 8 Try.underlying43 hi hz0 hz1 hz2 rfl (by decide) _ _ _ rfl (HO.out.alloc _) ⟨wr.heap.size, 0, none⟩ 1 1 [.int .i64 ((a : Int) + t - 1)] rfl rfl (cell_one_new _ _ _) ?c2 ?c3 ?c4 ?c5 ?_)
          case c2 => first | rfl | (intro u hu; simp at hu; subst hu; rfl)
          case c3 => unfold maxLen; omega
          case c4 => omega
          case c5 => have := HBS.out; first | omega | (simp; omega)
          intro v9 w9 hown9 hgrow9 _
          have hbl := fun b hb => (row_block HO.out b hb).1
          have HB9 := Lib.hid ((HB.out.trans ((below_new wr (.cells #[.int .i64 ((a : Int) + t - 1)] 3)).mono HBS.out)).trans (below_grown hgrow9 hbl (by have := HBS.out; simp; omega)))
          have HBS9 := Lib.hid (Nat.le_trans (by have := HBS.out; simp; omega : w.heap.size ≤ (wr.alloc (.cells #[.int .i64 ((a : Int) + t - 1)] 3)).heap.size) hgrow9.size)
          have HO9 := Lib.hid hown9
          clear hbl hgrow9 hown9
          clear hW1
          have HOP := Lib.hid (show w9.ownsRow w.heap.size 3 1 _ ((rowF (upF a) t ++ [(a : Int) + t - 1]).length + 0) ((rowF (upF a) t ++ [(a : Int) + t - 1] ++ rowF (inF a t) 0).map iv) from by rw [HLP.out, show rowF (inF a t) 0 = [] from rfl, List.append_nil, ← HSN.out]; exact HO9.out)
          have hw2 := HW.out.2.2
          go_wp2_with fail
          clear hw2
          obtain ⟨pre, hpre⟩ : ∃ pre, pre = (rowF (upF a) t ++ [(a : Int) + t - 1]) := ⟨_, rfl⟩
          have HPE := Lib.hid hpre
          have HPL := Lib.hid (show pre.length ≤ 25 by rw [hpre, HLP.out]; omega)
          have HOP := Lib.hid (show World.ownsRow _ w.heap.size 3 1 _ (pre.length + 0) ((pre ++ rowF (inF a t) 0).map iv) from by rw [hpre]; exact HOP.out)
          clear hpre HLP
          have HB0 := Lib.hid HB9.out
          have HBS0 := Lib.hid HBS9.out
          go_loopw [7, 9] (fun z i wr => DnRel pre a t (t - 2) w.heap.size w z i wr) (fun _ i _ => (intOf i - a).toNat)
          case atStart => exact ⟨HB0.out, HBS0.out, 0, Nat.zero_le _, by simp, HOP.out⟩
          case round =>
            obtain ⟨hb, hbs, s, hs, rfl, hown⟩ := hrel
            clear HB0 HBS0 HOP HB HBS HO HB9 HBS9 HO9
            have HB := Lib.hid hb
            have HBS := Lib.hid hbs
            have HO := Lib.hid hown
            clear hb hbs hown
            have hpl := HPL.out
            by_cases hls : s < t - 2
            · exfalso
              omega
            · have hse : s = t - 2 := by omega
              have hgt : ¬ (a : Int) < (a : Int) + t - 2 - s := by omega
              have HSE := Lib.hid hse
              clear hse
              have ht1 : ¬ 1 < t := by omega
              have ht1i : ¬ (1 : Int) < (t : Int) := by omega
              go_wp2_with fail
              go_ret
              have hres : sweepT a t true = pre ++ rowF (inF a t) s := by
                obtain rfl : t = 1 := by omega
                have h0 : s = 0 := by have := HSE.out; omega
                rw [sweep_wait_one a, HPE.out, h0, show rowF (inF a 1) 0 = [] from rfl, List.append_nil]
                congr 2
                omega
              refine ⟨_, rfl, ?_, HB.out⟩
              rw [hres, List.length_append, rowF_len]
              exact HO.out
        · skip
          have hW1 := HW.out.2.1
          have HSN := Lib.hid (pre_snoc (rowF (upF a) t) ((a : Int) + t - 1))
          have HLP := Lib.hid (show (rowF (upF a) t ++ [(a : Int) + t - 1]).length = t + 1 by rw [List.length_append, rowF_len]; rfl)
          generalize hys : (rowF (upF a) t).map iv = ys at *
          clear hys
          go_wp2_with (at_builtin; refine wpList_append_own _ rfl _ _ 43 rfl w.heap.size 3 i0 (.int .i64 0) 1 8 Try.underlying43 hi hz0 hz1 hz2 rfl (by decide) _ _ _ rfl (HO.out.alloc _) ⟨wr.heap.size, 0, none⟩ 1 1 [.int .i64 ((a : Int) + t - 1)] rfl rfl (cell_one_new _ _ _) ?c2 ?c3 ?c4 ?c5 ?_)
          case c2 => first | rfl | (intro u hu; simp at hu; subst hu; rfl)
          case c3 => unfold maxLen; omega
          case c4 => omega
          case c5 => have := HBS.out; first | omega | (simp; omega)
          intro v9 w9 hown9 hgrow9 _
          have hbl := fun b hb => (row_block HO.out b hb).1
          have HB9 := Lib.hid ((HB.out.trans ((below_new wr (.cells #[.int .i64 ((a : Int) + t - 1)] 3)).mono HBS.out)).trans (below_grown hgrow9 hbl (by have := HBS.out; simp; omega)))
          have HBS9 := Lib.hid (Nat.le_trans (by have := HBS.out; simp; omega : w.heap.size ≤ (wr.alloc (.cells #[.int .i64 ((a : Int) + t - 1)] 3)).heap.size) hgrow9.size)
          have HO9 := Lib.hid hown9
          clear hbl hgrow9 hown9
          clear hW1
          have HOP := Lib.hid (show w9.ownsRow w.heap.size 3 1 _ ((rowF (upF a) t ++ [(a : Int) + t - 1]).length + 0) ((rowF (upF a) t ++ [(a : Int) + t - 1] ++ rowF (inF a t) 0).map iv) from by rw [HLP.out, show rowF (inF a t) 0 = [] from rfl, List.append_nil, ← HSN.out]; exact HO9.out)
          have hw2 := HW.out.2.2
          go_wp2_with fail
          clear hw2
          obtain ⟨pre, hpre⟩ : ∃ pre, pre = (rowF (upF a) t ++ [(a : Int) + t - 1]) := ⟨_, rfl⟩
          have HPE := Lib.hid hpre
          have HPL := Lib.hid (show pre.length ≤ 25 by rw [hpre, HLP.out]; omega)
          have HOP := Lib.hid (show World.ownsRow _ w.heap.size 3 1 _ (pre.length + 0) ((pre ++ rowF (inF a t) 0).map iv) from by rw [hpre]; exact HOP.out)
          clear hpre HLP
          have HB0 := Lib.hid HB9.out
          have HBS0 := Lib.hid HBS9.out
          go_loopw [7, 9] (fun z i wr => DnRel pre a t (t - 2) w.heap.size w z i wr) (fun _ i _ => (intOf i - a).toNat)
          case atStart => exact ⟨HB0.out, HBS0.out, 0, Nat.zero_le _, by simp, HOP.out⟩
          case round =>
            obtain ⟨hb, hbs, s, hs, rfl, hown⟩ := hrel
            clear HB0 HBS0 HOP HB HBS HO HB9 HBS9 HO9
            have HB := Lib.hid hb
            have HBS := Lib.hid hbs
            have HO := Lib.hid hown
            clear hb hbs hown
            have hpl := HPL.out
            by_cases hls : s < t - 2
            · have hgt : (a : Int) < (a : Int) + t - 2 - s := by omega
              have hwt : IntKind.i64.wrap ((a : Int) + t - 2 - s) = (a : Int) + t - 2 - s := IntWalk.i64_in _ (by omega)
              have hwt2 : IntKind.i64.wrap ((a : Int) + t - 2 - s - 1) = (a : Int) + t - 2 - s - 1 := IntWalk.i64_in _ (by omega)
              have HSN := Lib.hid (show (pre ++ rowF (inF a t) s).map iv ++ [Value.int .i64 ((a : Int) + t - 2 - s)] = (pre ++ rowF (inF a t) (s + 1)).map iv from by rw [pre_snoc, List.append_assoc, rowF_next]; rfl)
              generalize hys : (pre ++ rowF (inF a t) s).map iv = ys at *
              generalize hpln : pre.length = pl at *
              clear hys
              go_wp2_with (at_builtin; refine wpList_append_own _ rfl _ _ 43 rfl w.heap.size 3 i0 (.int .i64 0) 1 8 Try.underlying43 hi hz0 hz1 hz2 rfl (by decide) _ _ _ rfl (HO.out.alloc _) ⟨wr.heap.size, 0, none⟩ 1 1 [.int .i64 ((a : Int) + t - 2 - s)] rfl rfl (cell_one_new _ _ _) ?c2 ?c3 ?c4 ?c5 ?_)
              case c2 => first | rfl | (intro u hu; simp at hu; subst hu; rfl)
              case c3 => unfold maxLen; omega
              case c4 => omega
              case c5 => have := HBS.out; first | omega | (simp; omega)
              intro v9 w9 hown9 hgrow9 _
              have hbl := fun b hb => (row_block HO.out b hb).1
              have HB9 := Lib.hid ((HB.out.trans ((below_new wr (.cells #[.int .i64 ((a : Int) + t - 2 - s)] 3)).mono HBS.out)).trans (below_grown hgrow9 hbl (by have := HBS.out; simp; omega)))
              have HBS9 := Lib.hid (Nat.le_trans (by have := HBS.out; simp; omega : w.heap.size ≤ (wr.alloc (.cells #[.int .i64 ((a : Int) + t - 2 - s)] 3)).heap.size) hgrow9.size)
              have HO9 := Lib.hid hown9
              clear hbl hgrow9 hown9
              go_wp2_with fail
              go_roundw
              case rel => exact ⟨HB9.out, HBS9.out, s + 1, by omega, by (first | (congr 1; omega) | congr 1), by rw [← HSN.out, hpln, ← Nat.add_assoc]; exact HO9.out⟩
              case measure => simp [intOf] <;> omega
            · have hse : s = t - 2 := by omega
              have hgt : ¬ (a : Int) < (a : Int) + t - 2 - s := by omega
              have HSE := Lib.hid hse
              clear hse
              have ht1 : 1 < t := by omega
              have ht1i : (1 : Int) < (t : Int) := by omega
              have HSN := Lib.hid (pre_snoc (pre ++ rowF (inF a t) s) (a : Int))
              have hres : sweepT a t true = pre ++ rowF (inF a t) s ++ [(a : Int)] := by
                obtain ⟨m, rfl⟩ : ∃ m, t = m + 2 := ⟨t - 2, by omega⟩
                rw [sweep_wait a m, HPE.out, HSE.out]
                rfl
              have HRS := Lib.hid hres
              have HLL := Lib.hid (show (sweepT a t true).length = pre.length + s + 1 by rw [hres, List.length_append, List.length_append, rowF_len]; rfl)
              clear hres
              have hs25 : s ≤ 24 := by omega
              generalize hys : (pre ++ rowF (inF a t) s).map iv = ys at *
              generalize hpln : pre.length = pl at *
              clear hys
              go_wp2_with (at_builtin; refine wpList_append_own _ rfl _ _ 43 rfl w.heap.size 3 i0 (.int .i64 0) 1 8 Try.underlying43 hi hz0 hz1 hz2 rfl (by decide) _ _ _ rfl (HO.out.alloc _) ⟨wr.heap.size, 0, none⟩ 1 1 [.int .i64 (a : Int)] rfl rfl (cell_one_new _ _ _) ?c2 ?c3 ?c4 ?c5 ?_)
              case c2 => first | rfl | (intro u hu; simp at hu; subst hu; rfl)
              case c3 => unfold maxLen; omega
              case c4 => omega
              case c5 => have := HBS.out; first | omega | (simp; omega)
              intro v9 w9 hown9 hgrow9 _
              have hbl := fun b hb => (row_block HO.out b hb).1
              have HB9 := Lib.hid ((HB.out.trans ((below_new wr (.cells #[.int .i64 (a : Int)] 3)).mono HBS.out)).trans (below_grown hgrow9 hbl (by have := HBS.out; simp; omega)))
              have HBS9 := Lib.hid (Nat.le_trans (by have := HBS.out; simp; omega : w.heap.size ≤ (wr.alloc (.cells #[.int .i64 (a : Int)] 3)).heap.size) hgrow9.size)
              have HO9 := Lib.hid hown9
              clear hbl hgrow9 hown9
              go_wp2_with fail
              go_ret
              refine ⟨_, rfl, ?_, HB9.out⟩
              rw [HLL.out, HRS.out, ← HSN.out]
              exact HO9.out
end Go.Proofs.Ytefjignlhlpndaa
