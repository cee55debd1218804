/-
  What is proved: TurnAround of the model and of the program. Conditions: a slice that reads as a list of numbers.
-/
import Derived.Test.YthbmiigndhoopaaLnb
import Derived.Test.YthbmiigndhoopaaLnk
import Derived.Maps.AppendAt
import Derived.Shelf.Abstract
namespace Go.Proofs.Ythbmiigndhoopaa
open Go.RowKit
set_option linter.unusedVariables false
set_option linter.unusedSimpArgs false
attribute [local go_sem] Oper.semAt_some

/-- the lane turned around, place by place -/
def arG (xs : List Int) (t : Nat) : Int := 1 - xs.getD (xs.length - 1 - t) 0
def arL (xs : List Int) (k : Nat) : List Int := (List.range k).map (arG xs)
theorem arL_len (xs : List Int) (k : Nat) : (arL xs k).length = k := by simp [arL]
theorem arL_next (xs : List Int) (k : Nat) : (arL xs (k + 1)).map iv = (arL xs k).map iv ++ [.int .i64 (arG xs k)] := by
  unfold arL
  rw [List.range_succ, List.map_append, List.map_append]
  rfl
/-- what TurnAround answers -/
noncomputable def aroundR (xs : List Int) : List Int × Bool := if laneB xs = true then (arL xs xs.length, true) else ([], false)
theorem aroundR_len (xs : List Int) : (aroundR xs).1.length ≤ 1048576 := by
  unfold aroundR
  split
  · rename_i h
    have := ((laneB_iff xs).1 h).2.1
    show (arL xs xs.length).length ≤ _
    rw [arL_len]
    omega
  · simp
def TaRel (xs : List Int) (base : Nat) (w : World) (v vi : Value) (wr : World) : Prop :=
  ∃ k : Nat, k ≤ xs.length ∧ vi = .int .i64 ((xs.length : Int) - 1 - k) ∧ wr.ownsRow base 3 1 v k ((arL xs k).map iv) ∧ Below base w wr
set_option maxHeartbeats 1600000 in
set_option maxRecDepth 20000 in
theorem spec_TurnAround (v : Value) (xs : List Int) (w : World) (hv : ReadsI w v xs) :
    Calls Try.prog 37 #[v] w (OwnsB w.heap.size (aroundR xs).1 (aroundR xs).2 w) := by
  obtain ⟨i0, hi, hz0, hz1, hz2⟩ := info_parts infoInt
  have HW := Lib.hid (fun w hv => l8Lane_any v xs w hv)
  have HV := Lib.hid (hv.below (below_new w (.cells #[] 3)))
  obtain ⟨y, c, rfl, hc, hm, hx⟩ := hv
  have HL := Lib.hid hx
  unfold maxLen at hm
  clear hx
  have HM := Lib.hid (made_at w w.heap.size w.heap.size rfl (Nat.le_refl _))
  have HB := Lib.hid (below_new w (.cells #[] 3))
  go_enter Try.func37, Try.ntmps37
  go_wp2_with fail
  refine (HW.out _ HV.out).mono ?_
  rintro e w1 ⟨rfl, rfl⟩
  generalize hww : w.alloc (.cells #[] 3) = w1 at *
  clear hww
  cases hl : laneB xs
  · have HR := Lib.hid (show aroundR xs = ([], false) from if_neg (by rw [hl]; simp))
    clear hl
    go_wp2_with fail
    go_ret2
    exact owns_R HR.out ⟨_, rfl, HM.out, HB.out⟩
  · have HR := Lib.hid (show aroundR xs = (arL xs xs.length, true) from if_pos hl)
    obtain ⟨h3, h24, h01⟩ := (laneB_iff xs).1 hl
    have H01 := Lib.hid h01
    clear hl h01
    have HS := Lib.hid (show TaRel xs w.heap.size w (.slice (some ⟨w.heap.size, 0, none⟩) 0 0) (.int .i64 ((xs.length : Int) - 1)) w1 from ⟨0, Nat.zero_le _, by simp, HM.out, HB.out⟩)
    clear HM HB HV
    go_wp2_with fail
    go_loopw [4, 5] (fun v vi wr => TaRel xs w.heap.size w v vi wr) (fun _ i _ => (intOf i + 1).toNat)
    case atStart => exact HS.out
    case round =>
      clear HS
      obtain ⟨k, hk, rfl, ho, hb⟩ := hrel
      have HOW := Lib.hid ho
      have HB := Lib.hid hb
      clear ho hb
      by_cases hlt : k < xs.length
      · obtain ⟨x, hx⟩ := get_some (xs := xs) (k := xs.length - 1 - k) (by omega)
        have h01 := H01.out _ x hx
        obtain ⟨b, o, rfl, hbl, hcell⟩ := HL.out _ x hx
        obtain ⟨j, hj⟩ : ∃ j : Nat, xs.length - 1 - k = j := ⟨_, rfl⟩
        have HG := Lib.hid (show arG xs k = 1 - x by unfold arG; rw [show xs.getD (xs.length - 1 - k) 0 = x by simp [List.getD, hx]])
        rw [hj] at hx hcell
        have hji : (xs.length : Int) - 1 - k = (j : Int) := by omega
        have HJI := Lib.hid hji
        have hcr : wr.cell? ⟨b, o + j, none⟩ = some (.int .i64 x) := (HB.out.cell (p := ⟨b, o + j, none⟩) hbl).trans hcell
        have HSZ := Lib.hid HB.out.size
        have hj0 : 0 ≤ (j : Int) := by omega
        have hj1 : (j : Int) < xs.length := by omega
        generalize hys : (arL xs k).map iv = ys at *
        have HYS := Lib.hid hys
        have HOW := Lib.hid HOW.out
        have HLT := Lib.hid hlt
        have hx1 : IntKind.i64.wrap (1 - x) = 1 - x := IntWalk.i64_in _ (by omega)
        rw [hji]
        clear hx hcell hj hys hji
        go_wp2_with (at_builtin; refine wpList_append_own _ rfl _ _ 22 rfl (w.heap.size) 3 i0 (.int .i64 0) 1 8 Try.underlying22 hi hz0 hz1 hz2 rfl (by decide) _ _ _ rfl (HOW.out.alloc _) ⟨wr.heap.size, 0, none⟩ 1 1 [.int .i64 (1 - x)] rfl rfl (cell_one_new _ _ _) ?c2 ?c3 ?c4 ?c5 ?_)
        case c2 => first | (intro u hu; simp at hu; subst hu; rfl) | rfl
        case c3 => unfold maxLen; omega
        case c4 => omega
        case c5 => have z0 := HSZ.out; simp; omega
        intro v' w9 hown' hgrow _
        have HB := Lib.hid ((HB.out.trans ((below_new wr (.cells #[.int .i64 (1 - x)] 3)).mono HB.out.size)).trans (below_grown hgrow (fun b hb => (owns_block HOW.out b hb).1) (by have := HSZ.out; simp; omega)))
        have HOW := Lib.hid hown'
        clear hgrow hown'
        go_wp2_with fail
        go_roundw
        case rel => exact ⟨k + 1, HLT.out, by have := HJI.out; go_num, by rw [arL_next, HG.out, HYS.out]; exact HOW.out, HB.out⟩
        case measure => have := HJI.out; simp [intOf] <;> omega
      · have hke : k = xs.length := by omega
        have HKE := Lib.hid hke
        have hj0 : ¬ 0 ≤ (xs.length : Int) - 1 - k := by omega
        clear hke
        go_wp2_with fail
        go_ret2
        refine owns_R HR.out ⟨_, rfl, ?_, HB.out⟩
        rw [arL_len, ← HKE.out]
        exact HOW.out
/-- what holds between two rounds -/
def ArI (xs : List Int) (vx : Value) (base : Nat) (w : World) (pre : List Nat) (W : World) : Prop :=
  (∃ v, Blk W (base + 1) #[v] 22 ∧ W.ownsRow base 3 1 v pre.length ((pre.map (arG xs)).map iv)) ∧ Blk W (base + 2) #[vx] 22 ∧ Below base w W ∧ base + 3 ≤ W.heap.size
/-- the number of a round -/
def ArA (xs : List Int) (vx : Value) (base : Nat) (t : Nat) (a : Act) (W : World) : Prop :=
  a = { tmps := #[vx, undef, .slice none 0 0, .bool false, .pointer (some ⟨base + 1, 0, none⟩), undef, .int .i64 (xs[xs.length - 1 - t]?.getD 0), .slice (some ⟨base, 0, none⟩) 0 0, vx, .bool true, .bool false, undef, vx, .func (.func 85) #[] #[.pointer (some ⟨base + 1 + 1, 0, none⟩)], .int .i64 ((xs.length : Int) - 1 - t), .int .i64 (xs[xs.length - 1 - t]?.getD 0), undef, undef, undef, undef, undef, undef], defers := [] }
/-- what a round leaves -/
theorem ar_fin {xs : List Int} {vx v : Value} {base t m : Nat} {w W w9 : World} {pre : List Nat} {a' : Option Addr} {c' : Nat} {o : Obj} (hw : base = w.heap.size) (hC : Blk W (base + 1) #[v] 22) (hO : W.ownsRow base 3 1 v pre.length ((pre.map (arG xs)).map iv)) (hX : Blk W (base + 2) #[vx] 22) (hB : Below base w W) (hS : base + 3 ≤ W.heap.size) (hm : m = base + 3)
    (hown : w9.ownsRow base 3 1 (.slice a' (pre.length + 1) c') (pre.length + 1) ((pre.map (arG xs)).map iv ++ [.int .i64 (arG xs t)])) (hgrow : (W.alloc o).grownBy w9 v.ownBlock) :
    KeepsFrom m W (w9.setCell ⟨base + 1, 0, none⟩ (.slice a' (pre.length + 1) c')) ∧ (∀ b, (b < base ∨ b = base + 2) → (w9.setCell ⟨base + 1, 0, none⟩ (.slice a' (pre.length + 1) c')).heap[b]? = W.heap[b]?) ∧ ArI xs vx base w (pre ++ [t]) (w9.setCell ⟨base + 1, 0, none⟩ (.slice a' (pre.length + 1) c')) := by
  have hbn := below_new W o
  have hO' := owns_below hO hbn
  have hrt := fun {b : Nat} {cs : Array Value} (hb : Blk W b cs 22) => row_type hO' (hb.below hbn) (by decide)
  have hC9 := bkept (hC.below hbn) hgrow (fun e => hrt hC _ e rfl)
  have hX9 := bkept (hX.below hbn) hgrow (fun e => hrt hX _ e rfl)
  have hlow : ∀ b, b < base → w9.heap[b]? = W.heap[b]? := fun b hb => by
    obtain ⟨g1, g2, g3, g4, g5⟩ := hgrow
    exact (g5 b (by have := hbn.size; omega) (fun e => by have := (owns_block hO' b e.symm).1; omega)).trans (hbn.block b (by omega))
  have hB9 : Below base w w9 := (hB.trans (hbn.mono (by have := hB.size; omega))).trans (below_grown hgrow (fun b hb => (owns_block hO' b hb).1) (by have := hbn.size; omega))
  have hoth : ∀ b, b ≠ base + 1 → (w9.setCell ⟨base + 1, 0, none⟩ (.slice a' (pre.length + 1) c')).heap[b]? = w9.heap[b]? := fun b hb => heap_setCell_other w9 ⟨base + 1, 0, none⟩ b _ (fun e => hb e)
  refine ⟨⟨?_, fun k o' hk ho hn => ?_⟩, fun b hb => ?_, ⟨_, bset _ hC9, ?_⟩, both _ hX9 (by omega), below_set _ hB9 (by omega), ?_⟩
  · have h1 := hbn.size
    have h2 := hgrow.size
    simp at h1 h2 ⊢
    omega
  · rw [hoth k (by omega)]
    have hkl := (Array.getElem?_eq_some_iff.1 ho).1
    obtain ⟨g1, g2, g3, g4, g5⟩ := hgrow
    refine (g5 k (by have := hbn.size; omega) (fun e => ?_)).trans ((hbn.block k hkl).trans ho)
    rcases hO.2 with ⟨hv, _⟩ | ⟨g, cap, cur, hv, _, hblk, _⟩
    · rw [hv] at e; cases e
    · rw [hv] at e
      cases e
      rw [hblk] at ho
      cases ho
      cases hn
  · rcases hb with hb | rfl
    · rw [hoth b (by omega)]
      exact hlow b hb
    · rw [hoth _ (by omega)]
      exact (show w9.heap[base + 2]? = _ from hX9).trans (show W.heap[base + 2]? = _ from hX).symm
  · rw [List.length_append, List.map_append, List.map_append]
    exact roth hown _ (row_type hown hC9 (by decide))
  · have h1 := hbn.size
    have h2 := hgrow.size
    simp at h1 h2 ⊢
    omega
theorem appendIn_atB {F : Fence} {n : Nat} {P : Program} (w : World) {ops : Array Oper} {rest : List Oper} {o : Oper} {a : Act} {Q : Exit → Act → World → Prop}
    (hg : o.guard = none) (s x : Operand) (t : TypeId) (hop : o.op = Op.call { callee := Callee.builtin Builtin.append, args := #[s, x], argTypes := #[t, t] })
    (base : Nat) (e : TypeId) (i : TypeInfo) (z : Value) (size bytes : Nat) (h1 : P.underlying t = some (.slice e)) (h2 : P.info? e = some i) (h3 : i.zero = some z) (h4 : i.size = size) (h5 : i.bytes = bytes) (h6 : z.cells.size = size) (h7 : 0 < size)
    (v : Value) (k : Nat) (xs : List Value) (hs : a.eval s = v) (hown : w.ownsRow base e size v k xs) (ad : Addr) (m c : Nat) (news : List Value) (hx : a.eval x = .slice (some ad) m c) (hn : news.length = m * size)
    (hc : ∀ j u, news[j]? = some u → w.cell? (ad.add j) = some u) (h1c : ∀ u ∈ news, u.oneCell' = true) (b1 : k + m ≤ maxLen) (b2 : (k + m) * bytes ≤ 140737488355328) (b3 : base ≤ w.heap.size)
    (hK : ∀ v' w', w'.ownsRow base e size v' (k + m) (xs ++ news) → w.grownBy w' v.ownBlock → (v'.ownBlock = v.ownBlock ∨ v'.ownBlock = some w.heap.size) → wpListIn F n P ops Q rest (a.put o.dst v') w') :
    wpListIn F n P ops Q (o :: rest) a w := by
  refine wpListIn_plain hg fun K hK' => ?_
  obtain ⟨v', w', hrun, r1, r2, _, r4⟩ := run_append_own_at (P := P) w base t o.type e i z size bytes h1 h2 h3 h4 h5 h6 h7 v k xs hown ad m c news hn hc h1c b1 b2 b3
  unfold Oper.wpIn
  refine ⟨by simp [Oper.about, hop, resolve, Target.leads, Sem.run_pure], ?_⟩
  rw [Oper.semAt_plain F _ _ (by rw [hop]; intro c hc'; cases hc')]
  simp [execOp, hop, resolve, invoke, builtin, hs, hx, hrun, Result.andThen]
  exact hK' _ _ (hK v' w' r1 r2 r4)
theorem blk_ownB {X Y : World} {b : Nat} {cs : Array Value} {t : TypeId} {row : Option Nat} (h : Blk X b cs t) (hg : X.grownBy Y row) (hr : ∀ r, row = some r → ∃ o : Obj, X.heap[r]? = some o ∧ o.isCells = false) : Blk Y b cs t := by
  refine bkept h hg (fun e => ?_)
  obtain ⟨o, ho, hn⟩ := hr b e
  rw [show X.heap[b]? = _ from h] at ho
  cases ho
  cases hn
theorem row_ownB {X Y : World} {base n : Nat} {v : Value} {l : List Value} {row : Option Nat} (h : X.ownsRow base 3 1 v n l) (hg : X.grownBy Y row) (hr : ∀ r, row = some r → ∃ o : Obj, X.heap[r]? = some o ∧ o.isCells = false) : Y.ownsRow base 3 1 v n l := by
  refine rkept h hg (fun b e e2 => ?_)
  obtain ⟨o, ho, hn⟩ := hr b e2
  rcases h.2 with ⟨hv, _⟩ | ⟨g, cap, cur, hv, _, hblk, _⟩
  · rw [hv] at e; cases e
  · rw [hv] at e
    cases e
    rw [hblk] at ho
    cases ho
    cases hn
theorem arI_own {xs : List Int} {vx : Value} {base m : Nat} {w : World} (hm : m = base + 3) (hw : base = w.heap.size) : OwnFrom m (ArI xs vx base w) := by
  intro s X Y row hs hg hr
  obtain ⟨⟨v, h1, h2⟩, hx, h3, h4⟩ := hs
  refine ⟨⟨v, blk_ownB h1 hg (fun r e => (hr r e).2), row_ownB h2 hg (fun r e => (hr r e).2)⟩, blk_ownB hx hg (fun r e => (hr r e).2), ?_, Nat.le_trans h4 hg.size⟩
  exact ⟨hg.os.trans h3.os, hg.tape.trans h3.tape, hg.output.trans h3.output, Nat.le_trans h3.size hg.size, fun k hk => (hg.block k (low_ltB (h3.block k hk) (by omega)) (fun e => by have := (hr k e.symm).1; omega)).trans (h3.block k hk)⟩
set_option maxHeartbeats 1600000 in
set_option maxRecDepth 20000 in
theorem turnAround_in (v : Value) (xs : List Int) (w : World) (hv : ReadsI w v xs) :
    CallsIn Fence.wide 4 Try.prog 38 #[v] w (OwnsB w.heap.size (aroundR xs).1 (aroundR xs).2 w) := by
  obtain ⟨i0, hi, hz0, hz1, hz2⟩ := info_parts infoInt
  have HW := Lib.hid (fun w hv => isLane_any v xs w hv)
  have HV := Lib.hid hv
  obtain ⟨va, vc, rfl, _⟩ := hv
  have HV2 := Lib.hid (HV.out.below ((below_new w (.cells #[] 3)).trans ((below_new (w.alloc (.cells #[] 3)) (.cells #[.slice (some ⟨w.heap.size, 0, none⟩) 0 0] 22)).mono (by simp))))
  refine callsIn_of_wp_marks Try.func38 rfl trivial ?_ rfl
  simp only [Try.ntmps38, List.size_toArray, List.length_cons, List.length_nil, Nat.reduceAdd, Nat.reduceSub, Array.replicate_succ, Array.replicate_zero, List.push_toArray, List.append_toArray, List.nil_append, List.cons_append]
  cases hl : laneB xs
  · rw [hl] at HW
    have HR := Lib.hid (show aroundR xs = ([], false) from if_neg (by rw [hl]; simp))
    have HM := Lib.hid (owns_below (made_at w w.heap.size w.heap.size rfl (Nat.le_refl _)) (below_new _ (.cells #[.slice (some ⟨w.heap.size, 0, none⟩) 0 0] 22)))
    have HB := Lib.hid ((below_new w (.cells #[] 3)).trans ((below_new (w.alloc (.cells #[] 3)) (.cells #[.slice (some ⟨w.heap.size, 0, none⟩) 0 0] 22)).mono (by simp)))
    clear hl
    gi_wp2_with (refine ⟨trivial, ?_⟩; gi_at_call 21; refine (callsIn_wide.2 (HW.out _ HV2.out)).mono ?_; rintro e w' ⟨rfl, rfl⟩)
    exact ⟨_, results_tmp2 rfl _ _ _, owns_R HR.out ⟨_, rfl, HM.out, HB.out⟩⟩
  · rw [hl] at HW
    have HR := Lib.hid (show aroundR xs = (arL xs xs.length, true) from if_pos hl)
    obtain ⟨h3, h24, h01⟩ := (laneB_iff xs).1 hl
    have H01 := Lib.hid h01
    clear hl h01
    gi_wp2_with (first | (refine ⟨trivial, ?_⟩; gi_at_call 21; refine (callsIn_wide.2 (HW.out _ HV2.out)).mono ?_; rintro e w' ⟨rfl, rfl⟩) | (refine ⟨trivial, ?_⟩; gi_at_call 71; refine (callsIn_wide.2 (backward_any _ va _ vc _ rfl)).mono ?_; rintro e w' ⟨rfl, rfl⟩))
    obtain ⟨w3, hw3⟩ : ∃ w3, w3 = (((w.alloc (.cells #[] 3)).alloc (.cells #[.slice (some ⟨w.heap.size, 0, none⟩) 0 0] 22)).alloc (Obj.cells #[Value.slice va xs.length vc] 22)) := ⟨_, rfl⟩
    have z3 : w3.heap.size = w.heap.size + 3 := by rw [hw3]; simp
    have b3 : Below w.heap.size w w3 := by rw [hw3]; exact (((Below.refl _ w).alloc (Nat.le_refl _) _).alloc (by simp) _).alloc (by simp; omega) _
    have x3 : Blk w3 (w.heap.size + 2) #[.slice va xs.length vc] 22 := by rw [hw3]; exact blk_at _ _ _ _ (by simp)
    have i3 : ArI xs (.slice va xs.length vc) w.heap.size w [] w3 := by
      refine ⟨⟨.slice (some ⟨w.heap.size, 0, none⟩) 0 0, ?_, ?_⟩, x3, b3, by omega⟩
      · rw [hw3]
        exact (blk_at _ _ _ _ (by simp)).below (below_new _ _)
      · rw [hw3]
        exact owns_below (owns_below (made_at w w.heap.size w.heap.size rfl (Nat.le_refl _)) (below_new _ _)) (below_new _ _)
    rw [← hw3]
    clear hw3
    refine wpIn_rangeFunc_ownH rfl (by omega) (gf := 85) (lb := #[.pointer (some ⟨w.heap.size + 2, 0, none⟩)]) rfl trivial (enters_of Try.func85 (by kernel_rfl) rfl)
      (iterB_stops w.heap.size (w.heap.size + 2) (.slice va xs.length vc) xs w w3 rfl (fun b hb => b3.block b hb) (by omega) (by omega) HV.out (by omega) (x3.cell 0))
      (fun h k b hb => (k b hb).trans (h b hb))
      (fun W l o o' hl _ _ _ b hb => World.putObj_heap_other (by omega))
      (Below.refl _ _) (fun _ => rfl)
      (ArI xs (.slice va xs.length vc) w.heap.size w) (fun _ _ _ => False) (arI_own z3 rfl) (fun _ _ _ _ _ hs _ _ => hs) i3
      (ArA xs (.slice va xs.length vc) w.heap.size) (fun _ _ _ _ _ _ hs _ _ => hs) ?assign ?body ?done ?stop
    case assign =>
      intro l pre x W K hI hK
      unfold encB
      gi_wp2
      exact hK _ _ (KeepsFrom.refl _ _) (fun b _ => rfl) hI rfl
    case body =>
      rintro l pre t a' W hl _ hI rfl hlt
      obtain ⟨⟨v, hC, hO⟩, hX, hB, hS⟩ := hI
      have hc := hC.cell 0
      have hgx : arG xs t = 1 - xs[xs.length - 1 - t]?.getD 0 := by unfold arG; rw [List.getD_eq_getElem?_getD]
      obtain ⟨x, hx⟩ := get_some (xs := xs) (k := xs.length - 1 - t) (by omega)
      have hxe : xs[xs.length - 1 - t]?.getD 0 = x := by rw [hx]; rfl
      have h01 := H01.out _ x hx
      have hx1 : IntKind.i64.wrap (1 - x) = 1 - x := IntWalk.i64_in _ (by omega)
      rw [hxe] at hgx ⊢
      have HGX := Lib.hid hgx
      have HC := Lib.hid hC
      have HO := Lib.hid hO
      have HX := Lib.hid hX
      have HB := Lib.hid hB
      have HS := Lib.hid hS
      have HLT := Lib.hid hlt
      have hown0 := hO.alloc (.cells #[.int .i64 (1 - x)] 3)
      have hcn : (W.alloc (.cells #[.int .i64 (1 - x)] 3)).cell? ⟨W.heap.size, 0, none⟩ = some (.int .i64 (1 - x)) := by rw [cell_new]; rfl
      have hsz : w.heap.size ≤ (W.alloc (.cells #[.int .i64 (1 - x)] 3)).heap.size := by simp; omega
      clear hC hO hX hB hgx hx
      gi_wp2_with (gi_at_builtin; refine appendIn_atB _ rfl _ _ 22 rfl w.heap.size 3 i0 (.int .i64 0) 1 8 Try.underlying22 hi hz0 hz1 hz2 rfl (by decide) _ _ _ rfl hown0 ⟨W.heap.size, 0, none⟩ 1 1 [.int .i64 (1 - x)] rfl rfl (one_nw W W.heap.size rfl) (by simp [Value.oneCell']) (by unfold maxLen; omega) (by omega) hsz ?_; intro v' w9 hown hgrow hat; obtain ⟨a', c', rfl, _⟩ := owns_shape hown; have hb9 := bkept (HC.out.below (below_new W _)) hgrow (fun e => row_type hown0 (HC.out.below (below_new W _)) (by decide) _ e rfl); have hcc := hb9.cell 0; have hff := hb9.free 0; have HOWN := Lib.hid hown; have HGROW := Lib.hid hgrow; clear hown hgrow hat hb9)
      rw [← HGX.out] at HOWN
      exact ar_fin rfl HC.out HO.out HX.out HB.out HS.out z3 HOWN.out HGROW.out
    case done =>
      rintro D ys W hD rfl hI hK
      obtain ⟨⟨v, hC, hO⟩, hX, hB, hS⟩ := hI
      have hc := hC.cell 0
      gi_wp2
      refine ⟨by simp, .inl ⟨_, _, rfl, run_takeDeferred hK, ?_⟩⟩
      refine ⟨_, results_tmp2 rfl _ _ _, owns_R HR.out ⟨v, rfl, ?_, ?_⟩⟩
      · have h := row_ownB hO (grownBy_putObj' W D (.deferred none)) (fun r e => by cases e; exact ⟨_, hK, rfl⟩)
        rw [List.length_range] at h
        rw [arL_len]
        exact h
      · refine hB.trans ⟨rfl, rfl, rfl, by simp, fun k hk => World.putObj_heap_other (by omega)⟩
    case stop =>
      rintro D c pre W _ _ h _
      exact h.elim
theorem impl_TurnAround (v : Value) (xs : List Int) (w : World) (hv : ReadsI w v xs) :
    Calls Try.prog 38 #[v] w (OwnsB w.heap.size (aroundR xs).1 (aroundR xs).2 w) :=
  callsIn_wide.1 (turnAround_in v xs w hv)
end Go.Proofs.Ythbmiigndhoopaa
